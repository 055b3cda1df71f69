/- Parts of the proof. -/
import Derived.Test.YtkfmbhlefppkhaaGreatDoorScavQ20
import Derived.WalkKit
import Derived.BigQuiet
import Derived.Deep.QuietTactic
import Derived.WalkLawsBesides
import Derived.WalkSpells
import Derived.Lib.Hide
import Derived.Outline
import Derived.Test.YtkfmbhlefppkhaaGreatDoorProg
import Derived.LoopTactic
import Derived.Deep.AppendLies
import Derived.OwnWalk
import Derived.BigRegion
import Derived.ProofKit
import Derived.OpenShut
import Derived.ShutString
import Derived.ChangeOld
import Derived.SizedLaws
import Derived.Lib.SmallJoins
import Derived.Deep.Slices
import Derived.LaidMore
import Derived.Stop.Joined
import Derived.Test.YtkfmbhlefppkhaaGreatDoorRows
set_option maxRecDepth 100000
set_option linter.unusedVariables false
set_option linter.unusedSimpArgs false
namespace Go.Proofs.YtkfmbhlefppkhaaGreatDoor
open Go.RowKit
theorem ret_bool {a b : Bool} (h : a = b) : Ending.returned (.bool a) = .returned (.bool b) := by rw [h]
section
variable (n : Int) (A : Option Addr) (len cap : Nat) (w : World)
end
def SameTo (ws ws' : List Nat) (k : Nat) : Prop := ∀ j, j < k → ws.getD j 0 = ws'.getD j 0
theorem same_loop (n : Int) (A A' : Option Addr) (cap cap' : Nat) (ws ws' : List Nat) (w : World) (hr : Row w w.heap.size A ws) (hr' : Row w w.heap.size A' ws') (hl : ws.length = ws'.length) (hm : ws.length ≤ maxLen) :
    Calls Tryz.prog 130 #[.agg #[.int .i64 n, .slice A ws.length cap], .agg #[.int .i64 n, .slice A' ws.length cap']] w fun e w' => e = .returned (.bool (decide (ws = ws'))) ∧ Below w.heap.size w w' := by
  unfold maxLen at hm
  have H := Lib.hid hl
  clear hl
  have hd : (n != n) = false := by simp
  have hd2 : ((ws.length : Int) != (ws.length : Int)) = false := by simp
  go_enter Tryz.func130, Tryz.ntmps130
  go_wp2
  go_loopw [23] (fun i wr => ∃ k m : Nat, i = .int .i64 k ∧ k ≤ ws.length ∧ SameTo ws ws' k ∧ wr = ((w.alloc (Obj.cells #[Value.int IntKind.i64 n, Value.slice A ws.length cap] 26)).alloc (Obj.cells #[Value.int IntKind.i64 n, Value.slice A' ws.length cap'] 26)).drewN m)
    (fun i _ => ws.length - (intOf i).toNat)
  case atStart => exact ⟨0, 0, rfl, Nat.zero_le _, fun j h => by omega, rfl⟩
  case round =>
    obtain ⟨k, m, rfl, hk, hs, rfl⟩ := hrel
    by_cases hlt : k < ws.length
    · obtain ⟨b, off, rfl, hb, hc⟩ := hr.at_ (by omega)
      obtain ⟨b', off', rfl, hb', hc'⟩ := hr'.at_ (by have := H.out; omega)
      have hck := hc k hlt
      have hck' := hc' k (by have := H.out; omega)
      obtain ⟨x, hx⟩ := named ws k
      obtain ⟨x', hx'⟩ := named ws' k
      rw [hx.out] at hck
      rw [hx'.out] at hck'
      clear hc hc'
      go_wp2
      go_quiet (fail)
      go_wp2
      · have ht : ((x : Int) != (x' : Int)) = true := by assumption
        go_ret
        refine ⟨ret_bool (decide_eq_false ?_).symm, bX⟩
        rintro rfl
        rw [← hx.out, ← hx'.out] at ht
        simp at ht
      · have ht : ((x : Int) != (x' : Int)) = false := by assumption
        go_roundw
        case rel => exact ⟨k + 1, _, by go_num, by omega, fun j hj => by
            by_cases e : j = k
            · rw [e, hx.out, hx'.out]; have := bne_eq_false_iff_eq.1 ht; omega
            · exact hs j (by omega), rfl⟩
        case measure => simp [intOf]; omega
    · go_wp2
      go_ret
      exact ⟨ret_bool (decide_eq_true (List.ext_getElem H.out (fun i h1 h2 => by have := hs i (by omega); simpa [h1, h2] using this))).symm, bX⟩
theorem block3 (w : World) (o o' o'' : Obj) : (((w.alloc o).alloc o').alloc o'').heap[w.heap.size + 2]? = some o'' := by
  have h := block2 (w.alloc o) o' o''
  rwa [World.size_alloc] at h
theorem own_empty (w w' : World) (o o' : Obj) (h : w'.heap = (((w.alloc o).alloc o').alloc (.cells #[] 32)).heap) : w'.ownsRow (w.heap.size + 2) 32 1 (.slice (some ⟨w.heap.size + 1 + 1, 0, none⟩) 0 0) 0 [] :=
  ⟨rfl, .inr ⟨w.heap.size + 1 + 1, 0, #[], rfl, Nat.le_refl _, by rw [h]; exact block3 _ _ _ _, Nat.le_refl _, Nat.zero_le _, rfl, rfl⟩⟩
theorem Own.of_owns {w : World} {B g cap : Nat} {ws : List Nat} (h : w.ownsRow B 32 1 (.slice (some ⟨g, 0, none⟩) ws.length cap) ws.length (vals ws)) (hw : Words ws) : Own w B (some ⟨g, 0, none⟩) ws :=
  ⟨hw, fun hl => ⟨g, rfl, (h.lt g rfl).1, (h.lt g rfl).2, fun i hi => ⟨by rw [h.cellAt i (by omega), vals_at ws i hi], h.frozenAt i⟩⟩⟩
theorem res_one {fn : Func} {p : Tmp} (h : fn.results = #[.cell p 26]) {tmps : Array Value} {w : World} {g : Nat} {v0 v1 : Value} (hp : tmps.getD p undef = .pointer (some ⟨g, 0, none⟩))
    (h0 : w.cell? ⟨g, 0, none⟩ = some v0) (h1 : w.cell? ⟨g, 1, none⟩ = some v1) : (results fn tmps).run Tryz.prog w = .ok (.agg #[v0, v1]) w := by
  have hp2 : tmps[p]?.getD undef = .pointer (some ⟨g, 0, none⟩) := by rw [← hp]; simp
  simp only [results, h]
  simp [go_sem, Result.andThen, h0, h1, asAddr, hp2]
theorem copy_nil (n : Int) (A : Option Addr) (cap : Nat) (w : World) :
    Calls Tryz.prog 122 #[.agg #[.int .i64 n, .slice A 0 cap]] w fun e w' => Copied w n [] e w' := by
  cases A
  all_goals
    go_enter Tryz.func122, Tryz.ntmps122
    go_wp2
    go_region
    all_goals
      go_wp2
      exact bodyPost_ret (res_one rfl rfl (g := w.heap.size + 1) (by simp [go_sem] <;> rfl) (by simp [go_sem] <;> rfl)) rfl ⟨_, 0, rfl, ⟨fun x hx => by simp at hx, fun h => by simp at h⟩, bX⟩
theorem copy_some (n : Int) (b off cap : Nat) (ws : List Nat) (w : World) (hr : Row w w.heap.size (some ⟨b, off, none⟩) ws) (h0 : 0 < ws.length) (hm : ws.length ≤ 17592186044416) :
    Calls Tryz.prog 122 #[.agg #[.int .i64 n, .slice (some ⟨b, off, none⟩) ws.length cap]] w fun e w' => Copied w n ws e w' := by
  obtain ⟨i0, hi, hz0, hz1, hz2⟩ := info_parts info_u64
  go_enter Tryz.func122, Tryz.ntmps122
  go_wp2
  go_region_law ((refine step_append_lies _ rfl (.tmp 5) (.tmp 7) 22 rfl (w.heap.size + 2) 32 i0 _ 1 8 Tryz.underlying22 hi hz0 hz1 hz2 rfl (by omega) (.slice (some ⟨w.heap.size + 1 + 1, 0, none⟩) 0 0) 0 [] (by simp [Act.eval, Act.put]) (own_empty w _ _ _ rfl) ⟨b, off, none⟩ ws.length cap (vals ws) (by simp [Act.eval, Act.put]) (by simp [vals]) (hr.src2 bX) (vals_one ws) h0 (by unfold maxLen; omega) (by omega) (by simp) _ rfl ?_; intro g cap2 w2 hown2 hg2 hat2 hlt2; simp only [Nat.zero_add, List.nil_append] at hown2; have hb_w2 : Below (w.heap.size + 2) _ w2 := (Below.refl _ _).grown hg2 lX (fun k hk => (by simp [Value.ownBlock] at hk; omega)); obtain ⟨hc_w2, hf_w2⟩ := bcell hb_w2; have hz_w2_w_0 : w.heap.size < w2.heap.size := lY hb_w2.size; have hz_w2_w_1 : w.heap.size + 1 < w2.heap.size := lY hb_w2.size))
  all_goals
    go_wp2
    have k0 : w2.cell? ⟨w.heap.size + 1, 0, none⟩ = _ := (hc_w2 _ _ lX).trans (by simp [go_sem]; rfl)
    have k1 : w2.cell? ⟨w.heap.size + 1, 1, none⟩ = _ := (hc_w2 _ _ lX).trans (by simp [go_sem]; rfl)
    have ho := Own.of_owns hown2 hr.words
    exact bodyPost_ret (res_one rfl rfl (set_two _ _ k0 k1).1 (set_two _ _ k0 k1).2) rfl ⟨_, cap2, rfl, ((ho.far (.inl lX) _).far (.inl lX) _).mono lX, bX⟩
theorem copy_any (n : Int) {A : Option Addr} (cap : Nat) {ws : List Nat} {w : World} (hr : Row w w.heap.size A ws) (hm : ws.length ≤ 17592186044416) :
    Calls Tryz.prog 122 #[.agg #[.int .i64 n, .slice A ws.length cap]] w fun e w' => Copied w n ws e w' := by
  by_cases h0 : 0 < ws.length
  · obtain ⟨b, off, rfl, _, _⟩ := hr.at_ h0
    exact copy_some n b off cap ws w hr h0 hm
  · obtain rfl : ws = [] := List.eq_nil_of_length_eq_zero (by omega)
    exact copy_nil n A cap w
theorem same_ok (n : Int) (ws : List Nat) (hm : ws.length ≤ maxLen) (w : World) (A A' : Option Addr) (cap cap' : Nat) (hr : Row w w.heap.size A ws) (hr' : Row w w.heap.size A' ws) :
    Calls Tryz.prog 130 #[.agg #[.int .i64 n, .slice A ws.length cap], .agg #[.int .i64 n, .slice A' ws.length cap']] w fun e w' => e = .returned (.bool true) ∧ Below w.heap.size w w' :=
  (same_loop n A A' cap cap' ws ws w hr hr' rfl hm).mono fun _ _ ⟨h1, h2⟩ => ⟨by rw [h1, decide_eq_true rfl], h2⟩
theorem IRow.of_owns {w : World} {B g cap : Nat} {xs : List Int} (h : w.ownsRow B 3 1 (.slice (some ⟨g, 0, none⟩) xs.length cap) xs.length (ivals xs)) (hw : ∀ x ∈ xs, I63 x) : IRow w w.heap.size (some ⟨g, 0, none⟩) xs :=
  ⟨hw, fun hl => ⟨g, 0, rfl, (h.lt g rfl).2, fun i hi => by rw [Nat.zero_add, h.cellAt i (by omega), ivals_at xs i hi]⟩⟩
theorem Row.cellAt {w : World} {B : Nat} {A : Option Addr} {ws : List Nat} (h : Row w B A ws) {k : Nat} (hk : k < ws.length) : ∃ b off, A = some ⟨b, off, none⟩ ∧ b < B ∧ w.cell? ⟨b, off + k, none⟩ = some (.int .u64 (ws.getD k 0 : Nat)) := by
  obtain ⟨b, off, e, hb, hc⟩ := h.at_ (by omega)
  exact ⟨b, off, e, hb, hc k hk⟩
section
variable {w : World} {A : Option Addr} {us : List Nat} {L : Nat} (cap : Nat)
end
theorem nth_mem (l : List Sd) (i : Nat) (h : i < l.length) : nth l i ∈ l := by
  unfold nth
  rw [List.getD_eq_getElem?_getD, List.getElem?_eq_getElem h]
  exact List.getElem_mem h
section
variable {w : World} {A : Option Addr} {l : List Sd} (cap : Nat)
end
section
variable {n : Int} {A : Option Addr} {ws : List Nat} {w : World} (cap : Nat)
theorem give_state (a c : Int) (hr : Row w w.heap.size A ws) (h : Right n ws) (h0 : 0 ≤ a) (h1 : 1 ≤ c) (h2 : c ≤ n - a) (hi : ∃ j : Nat, a ≤ j ∧ (j : Int) < a + c ∧ tb ws j = false) :
    Calls Tryz.prog 244 #[.agg #[.int .i64 n, .slice A ws.length cap], .int .i64 a, .int .i64 c] w fun e w' => Fresh w n ws 5 e w' := by
  have hn := h.1
  have hn2 := h.2.1
  have hR := Lib.hid h
  have hI : decide (0 ≤ a ∧ 1 ≤ c ∧ c ≤ n - a) = true := decide_eq_true ⟨h0, h1, h2⟩
  have hX := Lib.hid hi
  clear h hi
  go_enter Tryz.func244, Tryz.ntmps244
  go_wp2_with fail
  go_at_call 138
  refine (pview_ok _ (hr.later bX) hR.out).mono ?_
  rintro e w1 ⟨rfl, hb_w1⟩
  obtain ⟨hc_w1, hf_w1⟩ := bcell hb_w1; have hz_w1_w_0 : w.heap.size < w1.heap.size := lY hb_w1.size; have hz_w1_w_1 : w.heap.size + 1 < w1.heap.size := lY hb_w1.size; have hs_w1 := hb_w1.size; (try simp only [zZ] at hs_w1)
  go_wp2_with fail
  go_at_call 269
  refine (phas_any cap ws.length a c hn hn2 (by omega)).mono ?_
  rintro e w2 ⟨rfl, hb_w2⟩
  obtain ⟨hc_w2, hf_w2⟩ := bcell hb_w2; have hz_w2_w_0 : w.heap.size < w2.heap.size := lY hb_w2.size; have hz_w2_w_1 : w.heap.size + 1 < w2.heap.size := lY hb_w2.size; have hz_w2_w1_0 : w1.heap.size < w2.heap.size := lY hb_w2.size; have hs_w2 := hb_w2.size; (try simp only [zZ] at hs_w2)
  rw [hI]
  go_wp2_with fail
  go_at_call 139
  refine (pnext_any cap a false (hr.later bX) hR.out h0 (by omega)).mono ?_
  rintro e w3 ⟨h3, hb_w3⟩
  obtain ⟨hc_w3, hf_w3⟩ := bcell hb_w3; have hz_w3_w_0 : w.heap.size < w3.heap.size := lY hb_w3.size; have hz_w3_w_1 : w.heap.size + 1 < w3.heap.size := lY hb_w3.size; have hz_w3_w1_0 : w1.heap.size < w3.heap.size := lY hb_w3.size; have hs_w3 := hb_w3.size; (try simp only [zZ] at hs_w3)
  obtain ⟨t, rfl, t1, t2, t3, t4⟩ := h3
  have ht : t < a + c := by
    obtain ⟨j, j1, j2, j3⟩ := hX.out
    by_cases e : t < a + c
    · exact e
    · exact absurd j3 (t3 j j1 (by omega))
  clear t3 t4
  have hd : decide (t < a + c) = true := by simpa using ht
  go_wp2_with fail
  go_at_call 171
  refine (ptwin_ok cap (hr.later bX) hR.out).mono ?_
  rintro e w4 ⟨A4, cap4, rfl, ho4, hb_w4⟩
  obtain ⟨hc_w4, hf_w4⟩ := bcell hb_w4; have hz_w4_w_0 : w.heap.size < w4.heap.size := lY hb_w4.size; have hz_w4_w_1 : w.heap.size + 1 < w4.heap.size := lY hb_w4.size; have hz_w4_w1_0 : w1.heap.size < w4.heap.size := lY hb_w4.size; have hs_w4 := hb_w4.size; (try simp only [zZ] at hs_w4)
  go_wp2
  have k0 : w4.cell? ⟨w.heap.size + 1, 0, none⟩ = _ := (hc_w4 _ _ lX).trans ((hc_w3 _ _ lX).trans ((hc_w2 _ _ lX).trans ((World.cell?_alloc_lt _ _ ⟨_, _, _⟩ lX).trans ((hc_w1 _ _ lX).trans (by simp [go_sem]; rfl)))))
  have k1 : w4.cell? ⟨w.heap.size + 1, 1, none⟩ = _ := (hc_w4 _ _ lX).trans ((hc_w3 _ _ lX).trans ((hc_w2 _ _ lX).trans ((World.cell?_alloc_lt _ _ ⟨_, _, _⟩ lX).trans ((hc_w1 _ _ lX).trans (by simp [go_sem]; rfl)))))
  exact bodyPost_ret (res_pages2 rfl rfl (set_two _ _ k0 k1).1 (set_two _ _ k0 k1).2) rfl ⟨A4, cap4, rfl, (ho4.two (g := w.heap.size + 1) lX).mono lX, bX⟩
end
section
variable {w : World} {A M C N : Option Addr} (ca cm cc cn : Nat)
theorem xsameone_self (d : Sd) (hA : Row w w.heap.size A d.aw) (hM : Row w w.heap.size M d.mw) (hC : Row w w.heap.size C d.aw) (hN : Row w w.heap.size N d.mw) (la : d.aw.length ≤ 17592186044416) (lm : d.mw.length ≤ 17592186044416) :
    Calls Tryz.prog 173 #[spv d A ca M cm, spv d C cc N cn] w fun e w' => e = .returned (.bool true) ∧ Below w.heap.size w w' := by
  have HA := Lib.hid fun (w : World) h1 h2 => same_ok d.an d.aw (by unfold maxLen; omega) w A C ca cc h1 h2
  have HM := Lib.hid fun (w : World) h1 h2 => same_ok d.mn d.mw (by unfold maxLen; omega) w M N cm cn h1 h2
  obtain ⟨f, p, z, an, aw, mn, mw, s⟩ := d
  unfold spv
  simp only at *
  have n1 : (f == f) = true := by simp
  have n2 : (p == p) = true := by simp
  have n3 : (z == z) = true := by simp
  have n4 : (s == s) = true := by simp
  go_enter Tryz.func173, Tryz.ntmps173
  go_wp2_with fail
  go_at_call 130
  refine (HA.out _ (hA.later bX) (hC.later bX)).mono ?_
  rintro e w2 ⟨rfl, hb_w2⟩
  obtain ⟨hc_w2, hf_w2⟩ := bcell hb_w2
  have hs2 := hb_w2.size
  (try simp only [zA] at hs2)
  have b2 : Below w.heap.size w w2 := bX
  have x0 : w2.cell? ⟨w.heap.size, 0, none⟩ = some (.int .i64 f) := (hc_w2 _ _ lX).trans (by simp [go_sem])
  have x1 : w2.cell? ⟨w.heap.size, 1, none⟩ = some (.int .i64 p) := (hc_w2 _ _ lX).trans (by simp [go_sem])
  have x2 : w2.cell? ⟨w.heap.size, 2, none⟩ = some (.int .i64 z) := (hc_w2 _ _ lX).trans (by simp [go_sem])
  have x3 : w2.cell? ⟨w.heap.size, 3, none⟩ = some (.int .i64 an) := (hc_w2 _ _ lX).trans (by simp [go_sem])
  have x4 : w2.cell? ⟨w.heap.size, 4, none⟩ = some (.slice A aw.length ca) := (hc_w2 _ _ lX).trans (by simp [go_sem])
  have x5 : w2.cell? ⟨w.heap.size, 5, none⟩ = some (.int .i64 mn) := (hc_w2 _ _ lX).trans (by simp [go_sem])
  have x6 : w2.cell? ⟨w.heap.size, 6, none⟩ = some (.slice M mw.length cm) := (hc_w2 _ _ lX).trans (by simp [go_sem])
  have x7 : w2.cell? ⟨w.heap.size, 7, none⟩ = some (.bool s) := (hc_w2 _ _ lX).trans (by simp [go_sem])
  have y0 : w2.cell? ⟨w.heap.size + 1, 0, none⟩ = some (.int .i64 f) := (hc_w2 _ _ lX).trans (by simp [go_sem])
  have y1 : w2.cell? ⟨w.heap.size + 1, 1, none⟩ = some (.int .i64 p) := (hc_w2 _ _ lX).trans (by simp [go_sem])
  have y2 : w2.cell? ⟨w.heap.size + 1, 2, none⟩ = some (.int .i64 z) := (hc_w2 _ _ lX).trans (by simp [go_sem])
  have y3 : w2.cell? ⟨w.heap.size + 1, 3, none⟩ = some (.int .i64 an) := (hc_w2 _ _ lX).trans (by simp [go_sem])
  have y4 : w2.cell? ⟨w.heap.size + 1, 4, none⟩ = some (.slice C aw.length cc) := (hc_w2 _ _ lX).trans (by simp [go_sem])
  have y5 : w2.cell? ⟨w.heap.size + 1, 5, none⟩ = some (.int .i64 mn) := (hc_w2 _ _ lX).trans (by simp [go_sem])
  have y6 : w2.cell? ⟨w.heap.size + 1, 6, none⟩ = some (.slice N mw.length cn) := (hc_w2 _ _ lX).trans (by simp [go_sem])
  have y7 : w2.cell? ⟨w.heap.size + 1, 7, none⟩ = some (.bool s) := (hc_w2 _ _ lX).trans (by simp [go_sem])
  clear hc_w2 hf_w2
  go_wp2_with fail
  go_at_call 130
  refine (HM.out _ (hM.later b2) (hN.later b2)).mono ?_
  rintro e w3 ⟨rfl, hb_w3⟩
  have hs3 := hb_w3.size
  have b3 : Below w.heap.size w w3 := b2.trans (hb_w3.mono (by omega))
  have X7 : w3.cell? ⟨w.heap.size, 7, none⟩ = some (.bool s) := (hb_w3.cell (p := ⟨w.heap.size, 7, none⟩) (by show w.heap.size < _; omega)).trans x7
  have Y7 : w3.cell? ⟨w.heap.size + 1, 7, none⟩ = some (.bool s) := (hb_w3.cell (p := ⟨w.heap.size + 1, 7, none⟩) (by show w.heap.size + 1 < _; omega)).trans y7
  go_wp2
  go_ret
  exact ⟨rfl, b3⟩
end
section
variable {w : World} {A C : Option Addr} {l : List Sd} (cap cc : Nat)
set_option maxHeartbeats 8000000 in
theorem xsameL_self (hr : SRow w w.heap.size A l) (hq : SRow w w.heap.size C l) (hl : l.length ≤ 17592186044416) (hw : WordsLe l) :
    Calls Tryz.prog 94 #[.slice A l.length cap, .slice C l.length cc] w fun e w' => e = .returned (.bool true) ∧ Below w.heap.size w w' := by
  have HW := Lib.hid hw
  clear hw
  go_enter Tryz.func94, Tryz.ntmps94
  go_wp2_with fail
  go_loopw [13] (fun ii wr => ∃ k : Nat, ii = .int .i64 (k : Nat) ∧ k ≤ l.length ∧ w.heap.size ≤ wr.heap.size ∧ Below w.heap.size w wr) (fun ii _ => l.length - (intOf ii).toNat)
  case atStart => exact ⟨0, rfl, Nat.zero_le _, lX, bX⟩
  case round =>
    obtain ⟨k, rfl, hk, hsz, hb_wr⟩ := hrel
    have hsr := hb_wr.size
    by_cases hlt : k < l.length
    · obtain ⟨b, off, hAe, hbb, hc⟩ := (hr.later hb_wr).at_ (by omega)
      obtain ⟨b', off', hCe, hbb', hc'⟩ := (hq.later hb_wr).at_ (by omega)
      obtain ⟨A, ca, M, cm, c8, ra, rm⟩ := hc k hlt
      obtain ⟨C, cc', N, cn, c8', rc, rn⟩ := hc' k hlt
      obtain ⟨wa, wm⟩ := HW.out _ (nth_mem l k hlt)
      generalize nth l k = d at *
      have HO := Lib.hid fun (w : World) h1 h2 h3 h4 => xsameone_self (w := w) (A := A) (M := M) (C := C) (N := N) ca cm cc' cn d h1 h2 h3 h4 wa wm
      obtain ⟨x0, x1, x2, x3, x4, x5, x6, x7⟩ := c8
      obtain ⟨y0, y1, y2, y3, y4, y5, y6, y7⟩ := c8'
      subst hAe hCe
      clear hc hc' wa wm
      obtain ⟨f, p, z, an, aw, mn, mw, s⟩ := d
      unfold spv at HO
      simp only at *
      have i1 : (k : Int) < (l.length : Int) := by omega
      have i2 : (0 : Int) ≤ (k : Int) := by omega
      go_wp2_with fail
      go_region_held3 (fun X : World => X.cell? ⟨b, off + k * 8, none⟩ = some (.int .i64 f) ∧ X.cell? ⟨b, off + k * 8 + 1, none⟩ = some (.int .i64 p) ∧ X.cell? ⟨b, off + k * 8 + 2, none⟩ = some (.int .i64 z) ∧ X.cell? ⟨b, off + k * 8 + 3, none⟩ = some (.int .i64 an) ∧ X.cell? ⟨b, off + k * 8 + 4, none⟩ = some (.slice A aw.length ca) ∧ X.cell? ⟨b, off + k * 8 + 5, none⟩ = some (.int .i64 mn) ∧ X.cell? ⟨b, off + k * 8 + 6, none⟩ = some (.slice M mw.length cm) ∧ X.cell? ⟨b, off + k * 8 + 7, none⟩ = some (.bool s) ∧ X.cell? ⟨b', off' + k * 8, none⟩ = some (.int .i64 f) ∧ X.cell? ⟨b', off' + k * 8 + 1, none⟩ = some (.int .i64 p) ∧ X.cell? ⟨b', off' + k * 8 + 2, none⟩ = some (.int .i64 z) ∧ X.cell? ⟨b', off' + k * 8 + 3, none⟩ = some (.int .i64 an) ∧ X.cell? ⟨b', off' + k * 8 + 4, none⟩ = some (.slice C aw.length cc') ∧ X.cell? ⟨b', off' + k * 8 + 5, none⟩ = some (.int .i64 mn) ∧ X.cell? ⟨b', off' + k * 8 + 6, none⟩ = some (.slice N mw.length cn) ∧ X.cell? ⟨b', off' + k * 8 + 7, none⟩ = some (.bool s))
        (refine ⟨?_, ?_, ?_, ?_, ?_, ?_, ?_, ?_, ?_, ?_, ?_, ?_, ?_, ?_, ?_, ?_⟩ <;> first | assumption | exact (World.cell?_alloc_lt _ _ ⟨_, _, _⟩ lX).trans (by assumption) | (simp [go_sem]; done))
        ((go_at_call 173; refine (HO.out _ (ra.later bX) (rm.later bX) (rc.later bX) (rn.later bX)).mono ?_; rintro e w5 ⟨rfl, hb_w5⟩; have hs5 := hb_w5.size; (try simp only [zZ] at hs5); have m0 : w5.cell? ⟨b, off + k * 8, none⟩ = some (.int .i64 f) := (hb_w5.cell lX).trans kY; have m1 : w5.cell? ⟨b, off + k * 8 + 1, none⟩ = some (.int .i64 p) := (hb_w5.cell lX).trans kY; have m2 : w5.cell? ⟨b, off + k * 8 + 2, none⟩ = some (.int .i64 z) := (hb_w5.cell lX).trans kY; have m3 : w5.cell? ⟨b, off + k * 8 + 3, none⟩ = some (.int .i64 an) := (hb_w5.cell lX).trans kY; have m4 : w5.cell? ⟨b, off + k * 8 + 4, none⟩ = some (.slice A aw.length ca) := (hb_w5.cell lX).trans kY; have m5 : w5.cell? ⟨b, off + k * 8 + 5, none⟩ = some (.int .i64 mn) := (hb_w5.cell lX).trans kY; have m6 : w5.cell? ⟨b, off + k * 8 + 6, none⟩ = some (.slice M mw.length cm) := (hb_w5.cell lX).trans kY; have m7 : w5.cell? ⟨b, off + k * 8 + 7, none⟩ = some (.bool s) := (hb_w5.cell lX).trans kY; have m8 : w5.cell? ⟨b', off' + k * 8, none⟩ = some (.int .i64 f) := (hb_w5.cell lX).trans kY; have m9 : w5.cell? ⟨b', off' + k * 8 + 1, none⟩ = some (.int .i64 p) := (hb_w5.cell lX).trans kY; have m10 : w5.cell? ⟨b', off' + k * 8 + 2, none⟩ = some (.int .i64 z) := (hb_w5.cell lX).trans kY; have m11 : w5.cell? ⟨b', off' + k * 8 + 3, none⟩ = some (.int .i64 an) := (hb_w5.cell lX).trans kY; have m12 : w5.cell? ⟨b', off' + k * 8 + 4, none⟩ = some (.slice C aw.length cc') := (hb_w5.cell lX).trans kY; have m13 : w5.cell? ⟨b', off' + k * 8 + 5, none⟩ = some (.int .i64 mn) := (hb_w5.cell lX).trans kY; have m14 : w5.cell? ⟨b', off' + k * 8 + 6, none⟩ = some (.slice N mw.length cn) := (hb_w5.cell lX).trans kY; have m15 : w5.cell? ⟨b', off' + k * 8 + 7, none⟩ = some (.bool s) := (hb_w5.cell lX).trans kY))
      all_goals
        go_wp2
        go_roundw
        case rel => exact ⟨k + 1, by go_num, by omega, lX, bX⟩
        case measure => simp [intOf]; omega
    · go_wp2
      go_ret
      exact ⟨rfl, hb_wr⟩
end
section
variable {w w' : World} {b : Nat} {v0 v1 v2 v3 v4 v5 v6 v7 : Value}
end
def shpc (s : Shp) : List Value := [.int .i64 s.n, .int .u64 (s.m : Nat)]
section
variable {A : Option Addr} {ws : List Nat} {w : World} (cap : Nat)
end
theorem asame_ok (ws : List Nat) (hm : ws.length ≤ maxLen) (w : World) (A A' : Option Addr) (cap cap' : Nat) (hr : Row w w.heap.size A ws) (hr' : Row w w.heap.size A' ws) :
    Calls Tryz.prog 92 #[.agg #[.slice A ws.length cap], .agg #[.slice A' ws.length cap']] w fun e w' => e = .returned (.bool true) ∧ Below w.heap.size w w' := by
  unfold maxLen at hm
  have hd2 : ((ws.length : Int) != (ws.length : Int)) = false := by simp
  go_enter Tryz.func92, Tryz.ntmps92
  go_wp2
  go_loopw [16] (fun i wr => ∃ k m : Nat, i = .int .i64 k ∧ k ≤ ws.length ∧ wr = ((w.alloc (Obj.cells #[Value.slice A ws.length cap] 24)).alloc (Obj.cells #[Value.slice A' ws.length cap'] 24)).drewN m)
    (fun i _ => ws.length - (intOf i).toNat)
  case atStart => exact ⟨0, 0, rfl, Nat.zero_le _, rfl⟩
  case round =>
    obtain ⟨k, m, rfl, hk, rfl⟩ := hrel
    by_cases hlt : k < ws.length
    · obtain ⟨b, off, rfl, hb, hc⟩ := hr.at_ (by omega)
      obtain ⟨b', off', rfl, hb', hc'⟩ := hr'.at_ (by omega)
      have hck := hc k hlt
      have hck' := hc' k hlt
      obtain ⟨x, hx⟩ := named ws k
      rw [hx.out] at hck hck'
      have hd3 : ((x : Int) != (x : Int)) = false := by simp
      clear hc hc'
      go_wp2
      go_quiet (fail)
      go_wp2
      go_roundw
      case rel => exact ⟨k + 1, _, by go_num, by omega, rfl⟩
      case measure => simp [intOf]; omega
    · go_wp2
      go_ret
      exact ⟨rfl, bX⟩
section
variable {n : Int} {A : Option Addr} {ws : List Nat} {w : World} (cap : Nat)
theorem rpcopy_any (hr : Row w w.heap.size A ws) (hm : ws.length ≤ 17592186044416) :
    Calls Tryz.prog 71 #[.agg #[.int .i64 n, .slice A ws.length cap]] w fun e w' => Copied w n ws e w' := by
  go_enter Tryz.func71, Tryz.ntmps71
  go_wp2_with (go_at_call 122; refine (copy_any _ _ (hr.later bX) hm).mono ?_; rintro e w1 ⟨A1, cap1, rfl, ho1, hb_w1⟩; obtain ⟨hc_w1, hf_w1⟩ := bcell hb_w1; have hz_w1_w_0 : w.heap.size < w1.heap.size := lY hb_w1.size; have hz_w1_w_1 : w.heap.size + 1 < w1.heap.size := lY hb_w1.size)
  have k0 : w1.cell? ⟨w.heap.size + 1, 0, none⟩ = _ := (hc_w1 _ _ lX).trans (by simp [go_sem]; rfl)
  have k1 : w1.cell? ⟨w.heap.size + 1, 1, none⟩ = _ := (hc_w1 _ _ lX).trans (by simp [go_sem]; rfl)
  exact bodyPost_ret (res_pages1 rfl rfl (set_two _ _ k0 k1).1 (set_two _ _ k0 k1).2) rfl ⟨A1, cap1, rfl, (ho1.two (g := w.heap.size + 1) lX).mono lX, bX⟩
theorem rpsame_ok (hm : ws.length ≤ maxLen) (A' : Option Addr) (cap' : Nat) (hr : Row w w.heap.size A ws) (hr' : Row w w.heap.size A' ws) :
    Calls Tryz.prog 93 #[.agg #[.int .i64 n, .slice A ws.length cap], .agg #[.int .i64 n, .slice A' ws.length cap']] w fun e w' => e = .returned (.bool true) ∧ Below w.heap.size w w' := by
  go_enter Tryz.func93, Tryz.ntmps93
  go_wp2_with fail
  go_at_call 130
  refine (same_ok n ws hm _ _ _ _ _ (hr.later bX) (hr'.later bX)).mono ?_
  rintro e w1 ⟨rfl, hb_w1⟩
  obtain ⟨hc_w1, hf_w1⟩ := bcell hb_w1; have hz_w1_w_0 : w.heap.size < w1.heap.size := lY hb_w1.size; have hz_w1_w_1 : w.heap.size + 1 < w1.heap.size := lY hb_w1.size; have hs_w1 := hb_w1.size; (try simp only [zZ] at hs_w1)
  go_wp2
  go_ret
  exact ⟨rfl, bX⟩
end
section
variable {w : World} {v v' : Hv} {h : Hp}
set_option maxHeartbeats 1000000 in
theorem hsame_any (m : HM w w.heap.size v h) (m' : HM w w.heap.size v' h) (hs : Short h) :
    Calls Tryz.prog 20 #[hpV v h, hpV v' h] w fun e w' => e = .returned (.bool true) ∧ Below w.heap.size w w' := by
  have HA := Lib.hid fun (w : World) h1 h2 => asame_ok h.ws (by have := hs.ws; unfold maxLen; omega) w v.A v'.A v.ca v'.ca h1 h2
  have HU := Lib.hid fun (w : World) h1 h2 => rpsame_ok (n := h.n) (A := v.U) (ws := h.us) (w := w) v.cu (by have := hs.us; unfold maxLen; omega) v'.U v'.cu h1 h2
  have HV := Lib.hid fun (w : World) h1 h2 => xsameL_self (w := w) (A := v.V) (C := v'.V) (l := h.l) v.cv v'.cv h1 h2 (by have := hs.l; omega) hs.each
  have hx := HIn.new m 31
  have hx1 := hx.alloc (.cells #[.slice v'.A h.ws.length v'.ca, .int .i64 h.n, .slice v'.U h.us.length v'.cu, .slice v'.V h.l.length v'.cv] 31)
  have hm1 := m'.later ((Below.refl _ _).alloc (Nat.le_refl _) (.cells #[.slice v.A h.ws.length v.ca, .int .i64 h.n, .slice v.U h.us.length v.cu, .slice v.V h.l.length v.cv] 31))
  have hy1 := HIn.new hm1 31
  rw [World.size_alloc] at hy1
  clear hx hm1
  unfold hpV hpv
  go_enter Tryz.func20, Tryz.ntmps20
  go_wp2_with fail
  go_at_call 92
  refine (HA.out _ (by exact hx1.m.a) (by exact hy1.m.a)).mono ?_
  rintro e w1 ⟨rfl, hb_w1⟩
  have b1 : Below w.heap.size w w1 := bX
  have hx2 := hx1.later hb_w1
  have hy2 := hy1.later hb_w1
  obtain ⟨c0, c1, c2, c3, f0, f1, f2, f3⟩ := id hx2.box
  obtain ⟨d0, d1, d2, d3, g0, g1, g2, g3⟩ := id hy2.box
  go_wp2_with fail
  go_at_call 93
  refine (HU.out _ (by exact hx2.m.u) (by exact hy2.m.u)).mono ?_
  rintro e w2 ⟨rfl, hb_w2⟩
  have b2 : Below w.heap.size w w2 := b1.trans (hb_w2.mono b1.size)
  have hx3 := hx2.later hb_w2
  have hy3 := hy2.later hb_w2
  clear c0 c1 c2 c3 f0 f1 f2 f3 d0 d1 d2 d3 g0 g1 g2 g3
  obtain ⟨c0, c1, c2, c3, f0, f1, f2, f3⟩ := id hx3.box
  obtain ⟨d0, d1, d2, d3, g0, g1, g2, g3⟩ := id hy3.box
  go_wp2_with fail
  go_at_call 94
  refine (HV.out _ (by exact hx3.m.v) (by exact hy3.m.v)).mono ?_
  rintro e w3 ⟨rfl, hb_w3⟩
  have b3 : Below w.heap.size w w3 := b2.trans (hb_w3.mono b2.size)
  go_wp2
  go_ret
  exact ⟨rfl, b3⟩
end
theorem hsameaddrs_any {w : World} {A C : Option Addr} {t : List Nat} (ca cc : Nat) (hl : t.length ≤ 17592186044416) (hr : Row w w.heap.size A t) (hq : Row w w.heap.size C t) :
    Calls Tryz.prog 37 #[.slice A t.length ca, .slice C t.length cc] w fun e w' => e = .returned (.bool true) ∧ Below w.heap.size w w' := by
  have HA := Lib.hid fun (w : World) h1 h2 => asame_ok t (by unfold maxLen; omega) w A C ca cc h1 h2
  go_enter Tryz.func37, Tryz.ntmps37
  go_wp2_with fail
  go_at_call 92
  refine (HA.out _ (hr.later bX) (hq.later bX)).mono ?_
  rintro e w1 ⟨rfl, hb_w1⟩
  have b1 : Below w.heap.size w w1 := bX
  go_wp2
  go_ret
  exact ⟨rfl, b1⟩
theorem RelE.ok {s : Sc} {q : Int} {s' : Sc} {g y : Int} (hE : RelE s q s' g y) (k : OkS s) (hf : s.fa < W64) : OkS s' ∧ s'.h = s.h ∧ s'.fa < W64 := by
  rcases hE with ⟨h1, _⟩ | ⟨_, _, e, _⟩ | ⟨_, _, e, _⟩
  · exact absurd k h1
  · rw [e]; exact ⟨k, rfl, hf⟩
  · rw [e]; exact ⟨relSc_ok k _, rfl, hf⟩
theorem NwE.of {s : Sc} (k : OkS s) (hf : s.fa < W64) {n : Int} {m : Nat} {bl : Bool} {h' : Hp} {a : Nat} {y : Int} (E : NewE s.h n m bl h' a y) : ∃ s', NwE s n m bl s' a y ∧ s'.h = h' ∧ OkS s' ∧ s'.fa < W64 := by
  by_cases hy : y = 0
  · subst hy
    exact ⟨newSc s h', .inr (.inr ⟨k, h', E, rfl, rfl⟩), rfl, newSc_ok k E.made.2.1 (E.n k.h), Nat.mod_lt _ (by unfold W64; omega)⟩
  · exact ⟨s, .inr (.inl ⟨k, ⟨h', E⟩, hy, rfl, E.zero hy⟩), (E.refused k.h hy).1.symm, k, hf⟩
theorem ClE.of {s : Sc} (k : OkS s) {f : Int} {h' : Hp} {t : List Nat} {y : Int} (E : ClnE s.h f h' t y) : ∃ s', ClE s f s' t y ∧ s'.h = h' := by
  by_cases hy : y = 0
  · subst hy
    exact ⟨clnSc s h', .inr (.inr ⟨k, h', E, rfl, rfl⟩), rfl⟩
  · exact ⟨s, .inr (.inl ⟨k, ⟨h', E⟩, hy, rfl, (E.refused k.h hy).2⟩), (E.refused k.h hy).1.symm⟩
theorem ClnE.short_ {h : Hp} (hk : OkH h) {f : Int} {h' : Hp} {t : List Nat} {y : Int} (hE : ClnE h f h' t y) : Short h' ∧ t.length ≤ 8 := by
  refine ⟨(hE.ok hk).short, ?_⟩
  rcases hE with ⟨_, _, e, _⟩ | ⟨_, _, _, e, _⟩ | ⟨_, _, _, _, _, e, _⟩ | ⟨i, hk, hI, _, _, e, _⟩
  · rw [e]; simp
  · rw [e]; simp
  · rw [e]; simp
  · rw [e]
    have h1 := unmA_len (nth h.l i) (slN (nth h.l i))
    have h2 := (hk.framed.spans.at_ hI.lt).slK
    unfold usD
    omega
theorem HIn.of_eq {w : World} {g : Nat} {v : Hv} {h h' : Hp} (e : h = h') (H : HIn w g v h') : HIn w g v h := by subst e; exact H
theorem sc0_bad : ¬ OkS sc0 := fun k => by
  have h : (0 : Int) < (0 : Int) := k.h.framed.some_
  omega
theorem short0 : Short hp0 := ⟨by simp [hp0], by simp [hp0], by simp [hp0], fun d hd => (by cases hd)⟩
set_option maxHeartbeats 8000000 in
theorem scavSame_ok (v : Hv) (O : Option Addr) (co : Nat) (s : Sc) (A : Option Addr) (ca : Nat) (xs : List Shp) (f q : Int) (w : World) (hz : Sizes w) (m : SM w v O s) (hs : Short s.h) (hnil : v.V = none → v.cv = 0) (hlo : s.os.length ≤ 17592186044416) (hfa : s.fa < W64) (hgo : s.go < W64) (hr : ShpRow w w.heap.size A xs) (hl : xs.length ≤ 17592186044416) (hq : -9223372036854775808 ≤ q ∧ q ≤ 9223372036854775807) (hk : OkS s) :
    Calls Tryz.prog 9 #[scV v O co s, .slice A xs.length ca, .int .i64 f, .int .i64 q] w fun e w' => e = .returned (.bool true) ∧ Below w.heap.size w w' := by
  have X0 := E8.new w (.slice v.A s.h.ws.length v.ca) (.int .i64 s.h.n) (.slice v.U s.h.us.length v.cu) (.slice v.V s.h.l.length v.cv) (.int .i64 s.n) (.slice O s.os.length co) (.int .u64 (s.fa : Nat)) (.int .u64 (s.go : Nat)) 64
  have M0 := m.later ((Below.refl _ _).alloc (Nat.le_refl _) (.cells #[.slice v.A s.h.ws.length v.ca, .int .i64 s.h.n, .slice v.U s.h.us.length v.cu, .slice v.V s.h.l.length v.cv, .int .i64 s.n, .slice O s.os.length co, .int .u64 (s.fa : Nat), .int .u64 (s.go : Nat)] 64))
  have z0 := X0.lt
  have Hok := Lib.hid hk
  have Hfa := Lib.hid hfa
  clear hk m hs hfa
  unfold scV
  go_enter Tryz.func9, Tryz.ntmps9
  go_wp2_with fail
  go_at_call 51
  refine (flives_any _ (hz.later bX)).mono ?_
  rintro e w1 ⟨rfl, hb_w1⟩
  have b_w1 : Below w.heap.size w w1 := bX
  replace X0 := X0.later hb_w1
  replace M0 := M0.later hb_w1
  obtain ⟨X0_0, X0_1, X0_2, X0_3, X0_4, X0_5, X0_6, X0_7, X0_f⟩ := id X0
  have ah : Below w1.heap.size w1 (w1.alloc (.cells #[.slice v.A s.h.ws.length v.ca, .int .i64 s.h.n, .slice v.U s.h.us.length v.cu, .slice v.V s.h.l.length v.cv] 31)) := Below.alloc (Below.refl _ _) (Nat.le_refl _) _
  have HH := HIn.new M0.h 31
  have z1 := X0.lt
  have X1 := X0.later ah
  have MM := Lib.hid (M0.later ah)
  have b_h := b_w1.trans (ah.mono b_w1.size)
  have NN := Lib.hid hnil
  have w1l := b_w1.size
  go_wp2_with fail
  clear X0_0 X0_1 X0_2 X0_3 X0_4 X0_5 X0_6 X0_7 X0_f
  clear ah X0 M0
  go_loopw [33] (fun kv wr => ∃ (k : Nat) (v1 : Hv) (O1 : Option Addr) (c1 : Nat) (s1 : Sc) (vh : Hv), kv = .int .i64 (k : Nat) ∧ k ≤ xs.length ∧ k ≤ 8 ∧ Hid (OkS s1) ∧ Hid (s1.fa < W64) ∧ E8 wr w.heap.size (.slice v1.A s1.h.ws.length v1.ca) (.int .i64 s1.h.n) (.slice v1.U s1.h.us.length v1.cu) (.slice v1.V s1.h.l.length v1.cv) (.int .i64 s1.n) (.slice O1 s1.os.length c1) (.int .u64 (s1.fa : Nat)) (.int .u64 (s1.go : Nat)) ∧ Hid (SM wr v1 O1 s1) ∧ Hid (v1.V = none → v1.cv = 0) ∧ HIn wr w1.heap.size vh s1.h ∧ Hid (vh.V = none → vh.cv = 0) ∧ Below w.heap.size w wr) (fun kv _ => xs.length - (intOf kv).toNat)
  case atStart => exact ⟨0, v, O, co, s, v, rfl, Nat.zero_le _, Nat.zero_le _, Hok, Hfa, X1, MM, NN, HH, NN, b_h⟩
  case round =>
    clear X1 MM NN HH b_h
    obtain ⟨k, v1, O1, c1, s1, vh, rfl, hk, hk8, Hok1, Hfa1, X1, HM1, HN1, H1, HNh, b_wr⟩ := hrel
    have ok1 := Hok1.out
    have M1 := HM1.out
    have n1 := HN1.out
    have nh := HNh.out
    have zx := X1.lt
    have zh := H1.lt
    by_cases hlt : k < xs.length
    · obtain ⟨bk, off, rfl, hbl, hc⟩ := (hr.later b_wr) (by omega)
      obtain ⟨hmk, d0, d1⟩ := hc k hlt
      have i1 : (k : Int) < (xs.length : Int) := by omega
      have i2 : (0 : Int) ≤ (k : Int) := by omega
      obtain ⟨sn, sm⟩ : ∃ z : Shp, Hid (nthF xs k = z) := ⟨_, Lib.hid rfl⟩
      rw [sm.out] at hmk d0 d1
      obtain ⟨n, mk⟩ := sn
      simp only at hmk d0 d1
      clear hc
      have aS : Below wr.heap.size wr (wr.alloc (.cells #[.int .i64 n, .int .u64 (mk : Nat)] 34)) := Below.alloc (Below.refl _ _) (Nat.le_refl _) _
      have P1 := Two.new wr (.int .i64 n) (.int .u64 (mk : Nat)) 34
      have b_x := b_wr.trans (aS.mono b_wr.size)
      have X1p := X1
      have H1p := H1
      have X1 := X1.later aS
      have M1 := M1.later aS
      have H1 := H1.later aS
      by_cases h8 : k = 8
      · subst h8
        obtain ⟨h9, t9, y9, EC⟩ := ClnE.ex s1.h f
        obtain ⟨s9, ES, hh9⟩ := ClE.of ok1 EC
        obtain ⟨hs9, ht9⟩ := ClnE.short_ ok1.h EC
        have HCL := Lib.hid fun (w : World) (v : Hv) (O : Option Addr) (co : Nat) z m n => fclean_any (w := w) (v := v) (O := O) (s := s1) co z m ok1.h.short n f s9 t9 y9 ES
        have HHC := Lib.hid fun (w : World) (v : Hv) z m n => zcleanH_any (w := w) (v := v) (h := s1.h) z m ok1.h.lens.1 ok1.h.lens.2 n f h9 t9 y9 EC
        have HCK := Lib.hid fun (w : World) (v : Hv) (O : Option Addr) (co : Nat) z m => fcheck_any (w := w) (v := v) (O := O) (s := s1) co z m ok1.h.short 0 (.inl ⟨ok1, rfl⟩)
        have HSA := Lib.hid fun (w : World) (A C : Option Addr) (ca cc : Nat) hr hq => hsameaddrs_any (w := w) (A := A) (C := C) (t := t9) ca cc (by omega) hr hq
        have HSM := Lib.hid fun (w : World) (v v' : Hv) (m : HM w w.heap.size v s9.h) (m' : HM w w.heap.size v' h9) => (show Calls Tryz.prog 20 #[hpV v s9.h, hpV v' h9] w (fun e w' => e = .returned (.bool true) ∧ Below w.heap.size w w') by rw [hh9] at m ⊢; exact hsame_any m m' hs9)
        have fy : (y9 == y9) = true := by simp
        have HT9 := Lib.hid ht9
        clear EC ES hh9 hs9 ht9
        unfold FreshSw at HCL
        unfold FreshHw at HHC
        unfold scV at HCL HCK
        unfold hpV hpv at HHC HSM
        obtain ⟨x0, x1, x2, x3, x4, x5, x6, x7, xf⟩ := id X1p
        go_wp2_with fail
        go_at_call 45
        refine (HCL.out _ _ _ _ (hz.later (by exact b_x)) (by exact M1) n1).mono ?_
        rintro e u1 ⟨v7, O7, c7, A7, k7, rfl, o7, r7, hb_u1⟩
        clear x0 x1 x2 x3 x4 x5 x6 x7 xf
        have b_1 := b_x.trans (hb_u1.mono b_x.size)
        have X1 := X1.later hb_u1
        have M1 := M1.later hb_u1
        have H1 := H1.later hb_u1
        have X1p := X1
        have H1p := H1
        have zx := X1.lt
        have zh := H1.lt
        have a1 : Below u1.heap.size u1 (u1.alloc (.cells #[.slice v7.A s9.h.ws.length v7.ca, .int .i64 s9.h.n, .slice v7.U s9.h.us.length v7.cu, .slice v7.V s9.h.l.length v7.cv, .int .i64 s9.n, .slice O7 s9.os.length c7, .int .u64 (s9.fa : Nat), .int .u64 (s9.go : Nat)] 64)) := Below.alloc (Below.refl _ _) (Nat.le_refl _) _
        have Y7 := E8.new u1 (.slice v7.A s9.h.ws.length v7.ca) (.int .i64 s9.h.n) (.slice v7.U s9.h.us.length v7.cu) (.slice v7.V s9.h.l.length v7.cv) (.int .i64 s9.n) (.slice O7 s9.os.length c7) (.int .u64 (s9.fa : Nat)) (.int .u64 (s9.go : Nat)) 64
        have X1 := X1.later a1
        have M1 := M1.later a1
        have H1 := H1.later a1
        have M7 := o7.sm.later a1
        have R7 := r7.row.later a1
        have b_2 := b_1.trans (a1.mono b_1.size)
        obtain ⟨h0, h1_, h2, h3, g0, g1, g2, g3⟩ := id H1p.box
        go_wp2_with fail
        go_at_call 40
        refine (HHC.out _ _ (hz.later (by exact b_2)) (by exact H1.m) nh).mono ?_
        rintro e u2 ⟨v8, A8, k8, rfl, o8, r8, hb_u2⟩
        clear h0 h1_ h2 h3 g0 g1 g2 g3 X1p H1p
        have b_3 := b_2.trans (hb_u2.mono b_2.size)
        have X1 := X1.later hb_u2
        have M1 := M1.later hb_u2
        have Y7 := Y7.later hb_u2
        have M7 := M7.later hb_u2
        have R7 := R7.later hb_u2
        have X1p := X1
        have Y7p := Y7
        have zx := X1.lt
        have zy := Y7.lt
        have a2 : Below u2.heap.size u2 (u2.alloc (.cells #[.slice v8.A h9.ws.length v8.ca, .int .i64 h9.n, .slice v8.U h9.us.length v8.cu, .slice v8.V h9.l.length v8.cv] 31)) := Below.alloc (Below.refl _ _) (Nat.le_refl _) _
        have H8 := HIn.new o8.hm 31
        have X1 := X1.later a2
        have M1 := M1.later a2
        have Y7 := Y7.later a2
        have M7 := M7.later a2
        have R7 := R7.later a2
        have R8 := r8.row.later a2
        have b_4 := b_3.trans (a2.mono b_3.size)
        obtain ⟨x0, x1, x2, x3, x4, x5, x6, x7, xf⟩ := id X1p
        go_wp2_with fail
        go_at_call 59
        refine (HCK.out _ _ _ _ (hz.later (by exact b_4)) (by exact M1)).mono ?_
        rintro e u3 ⟨rfl, hb_u3⟩
        clear x0 x1 x2 x3 x4 x5 x6 x7 xf
        have b_5 := b_4.trans (hb_u3.mono b_4.size)
        have Y7 := Y7.later hb_u3
        have M7 := M7.later hb_u3
        have R7 := R7.later hb_u3
        have R8 := R8.later hb_u3
        have H8 := H8.later hb_u3
        clear X1 X1p Y7p M1 H1 o7 r7 o8 r8
        go_wp2_with fail
        go_at_call 37
        refine (HSA.out _ _ _ _ _ (by exact R7) (by exact R8)).mono ?_
        rintro e u4 ⟨rfl, hb_u4⟩
        have b_6 := b_5.trans (hb_u4.mono b_5.size)
        have Y7 := Y7.later hb_u4
        have M7 := M7.later hb_u4
        have H8 := H8.later hb_u4
        obtain ⟨y0, y1, y2, y3, y4, y5, y6, y7, yf⟩ := id Y7
        obtain ⟨h0, h1_, h2, h3, g0, g1, g2, g3⟩ := id H8.box
        go_wp2_with fail
        go_at_call 20
        refine (HSM.out _ _ _ (by exact M7.h) (by exact H8.m)).mono ?_
        rintro e u5 ⟨rfl, hb_u5⟩
        have b_7 := b_6.trans (hb_u5.mono b_6.size)
        clear h0 h1_ h2 h3 g0 g1 g2 g3 y0 y1 y2 y3 y4 y5 y6 y7 yf
        go_wp2
        go_ret
        exact ⟨rfl, b_7⟩
      · have f10 : ((k : Int) == 8) = false := beq_eq_false_iff_ne.2 (by omega)
        have f11 : (k == 8) = false := beq_eq_false_iff_ne.2 h8
        obtain ⟨s2, g, y2, E2⟩ := RelE.ex s1 q
        obtain ⟨ok2, hh2, fa2⟩ := E2.ok ok1 Hfa1.out
        obtain ⟨h', a, y3, EN⟩ := NewE.ex s1.h n mk false
        obtain ⟨s3, E3, hh3, ok3, fa3⟩ := NwE.of (s := s2) ok2 fa2 (show NewE s2.h n mk false h' a y3 by rw [hh2]; exact EN)
        have HR := Lib.hid fun (w : World) (v : Hv) (O : Option Addr) (co : Nat) z m n => frelease_any (w := w) (v := v) (O := O) (s := s1) co z m ok1.h.short n q hq s2 g y2 E2
        have HN := Lib.hid fun (w : World) (v : Hv) (O : Option Addr) (co : Nat) z m nn => fnew_any (w := w) (v := v) (O := O) (s := s2) co z m ok2.h.short nn fa2 n mk hmk false s3 a y3 E3
        have HHN := Lib.hid fun (w : World) (v : Hv) z m nn => znewH_any (w := w) (v := v) (h := s1.h) z m ok1.h.lens.1 ok1.h.lens.2 nn n mk hmk false h' a y3 EN
        have HCK := Lib.hid fun (w : World) (v : Hv) (O : Option Addr) (co : Nat) z m => fcheck_any (w := w) (v := v) (O := O) (s := s1) co z m ok1.h.short 0 (.inl ⟨ok1, rfl⟩)
        have HC3 := Lib.hid fun (w : World) (v : Hv) (O : Option Addr) (co : Nat) z m => fcheck_any (w := w) (v := v) (O := O) (s := s3) co z m ok3.h.short 0 (.inl ⟨ok3, rfl⟩)
        have HSM := Lib.hid fun (w : World) (v v' : Hv) (m : HM w w.heap.size v s3.h) (m' : HM w w.heap.size v' h') => (show Calls Tryz.prog 20 #[hpV v s3.h, hpV v' h'] w (fun e w' => e = .returned (.bool true) ∧ Below w.heap.size w w') by rw [hh3] at m ⊢; exact hsame_any m m' (by rw [← hh3]; exact ok3.h.short))
        have HOK3 := Lib.hid ok3
        have HFA3 := Lib.hid fa3
        have HH3 := Lib.hid hh3
        have fa_ : ((a : Int) != (a : Int)) = false := by simp
        have fy_ : (y3 != y3) = false := by simp
        clear E2 ok1 ok2 hh2 fa2 EN E3 hh3 ok3 fa3
        unfold FreshSi at HR
        unfold FreshSa at HN
        unfold FreshHa at HHN
        unfold scV at HR HN HCK HC3
        unfold hpV hpv at HHN HSM
        obtain ⟨x0, x1, x2, x3, x4, x5, x6, x7, xf⟩ := id X1p
        go_wp2_with fail
        go_at_call 47
        refine (HR.out _ _ _ _ (hz.later (by exact b_x)) (by exact M1) n1).mono ?_
        rintro e w3 ⟨v3, O3, c3, rfl, o3, hb_w3⟩
        clear x0 x1 x2 x3 x4 x5 x6 x7 xf
        have b_3 := b_x.trans (hb_w3.mono b_x.size)
        have X1 := X1.later hb_w3
        have M1 := M1.later hb_w3
        have H1 := H1.later hb_w3
        have P1 := P1.later hb_w3
        have Pp := P1
        have pz := World.block_lt_of_cell? _ _ Pp.c0
        have a3 : Below w3.heap.size w3 (w3.alloc (.cells #[.slice v3.A s2.h.ws.length v3.ca, .int .i64 s2.h.n, .slice v3.U s2.h.us.length v3.cu, .slice v3.V s2.h.l.length v3.cv, .int .i64 s2.n, .slice O3 s2.os.length c3, .int .u64 (s2.fa : Nat), .int .u64 (s2.go : Nat)] 64)) := Below.alloc (Below.refl _ _) (Nat.le_refl _) _
        have Y3 := E8.new w3 (.slice v3.A s2.h.ws.length v3.ca) (.int .i64 s2.h.n) (.slice v3.U s2.h.us.length v3.cu) (.slice v3.V s2.h.l.length v3.cv) (.int .i64 s2.n) (.slice O3 s2.os.length c3) (.int .u64 (s2.fa : Nat)) (.int .u64 (s2.go : Nat)) 64
        have X1 := X1.later a3
        have M1 := M1.later a3
        have H1 := H1.later a3
        have P1 := P1.later a3
        have M3 := o3.sm.later a3
        have n3 := o3.h.nil
        have q5 := H1.lt
        have b_4 := b_3.trans (a3.mono b_3.size)
        clear X1p H1p aS o3 hb_w3
        obtain ⟨y0, y1, y2, y3, y4, y5, y6, y7, yf⟩ := id Y3
        obtain ⟨p0, p1, pf⟩ := id Pp
        go_wp2_with fail
        go_at_call 43
        refine (HN.out _ _ _ _ (hz.later (by exact b_4)) (by exact M3) n3).mono ?_
        rintro e w5 ⟨v5, O5, c5, rfl, o5, hb_w5⟩
        clear p0 p1 pf Pp pz y0 y1 y2 y3 y4 y5 y6 y7 yf
        have b_5 := b_4.trans (hb_w5.mono b_4.size)
        have X1 := X1.later hb_w5
        have M1 := M1.later hb_w5
        have H1 := H1.later hb_w5
        have P1 := P1.later hb_w5
        have Hp5 := H1
        have Pp := P1
        have pz := World.block_lt_of_cell? _ _ Pp.c0
        have zh := H1.lt
        have a5 : Below w5.heap.size w5 (w5.alloc (.cells #[.slice v5.A s3.h.ws.length v5.ca, .int .i64 s3.h.n, .slice v5.U s3.h.us.length v5.cu, .slice v5.V s3.h.l.length v5.cv, .int .i64 s3.n, .slice O5 s3.os.length c5, .int .u64 (s3.fa : Nat), .int .u64 (s3.go : Nat)] 64)) := Below.alloc (Below.refl _ _) (Nat.le_refl _) _
        have Y5 := E8.new w5 (.slice v5.A s3.h.ws.length v5.ca) (.int .i64 s3.h.n) (.slice v5.U s3.h.us.length v5.cu) (.slice v5.V s3.h.l.length v5.cv) (.int .i64 s3.n) (.slice O5 s3.os.length c5) (.int .u64 (s3.fa : Nat)) (.int .u64 (s3.go : Nat)) 64
        have X1 := X1.later a5
        have M1 := M1.later a5
        have H1 := H1.later a5
        have o5 := o5.later a5
        have n5 := o5.h.nil
        have q7 := H1.lt
        have b_6 := b_5.trans (a5.mono b_5.size)
        skip
        obtain ⟨h0, h1_, h2, h3, g0, g1, g2, g3⟩ := id Hp5.box
        obtain ⟨p0, p1, pf⟩ := id Pp
        go_wp2_with fail
        go_at_call 15
        refine (HHN.out _ _ (hz.later (by exact b_6)) (by exact H1.m) nh).mono ?_
        rintro e w7 ⟨v7, rfl, o7, hb_w7⟩
        clear h0 h1_ h2 h3 g0 g1 g2 g3 p0 p1 pf Pp Hp5 pz P1
        have b_7 := b_6.trans (hb_w7.mono b_6.size)
        have X1 := X1.later hb_w7
        have M1 := M1.later hb_w7
        have H1 := H1.later hb_w7
        have Y5 := Y5.later hb_w7
        have o5 := o5.later hb_w7
        have Xp := X1
        have zx := X1.lt
        have a7 : Below w7.heap.size w7 (w7.alloc (.cells #[.slice v7.A h'.ws.length v7.ca, .int .i64 h'.n, .slice v7.U h'.us.length v7.cu, .slice v7.V h'.l.length v7.cv] 31)) := Below.alloc (Below.refl _ _) (Nat.le_refl _) _
        have H7 := HIn.new o7.hm 31
        have X1 := X1.later a7
        have M1 := M1.later a7
        have H1 := H1.later a7
        have Y5 := Y5.later a7
        have o5 := o5.later a7
        have o7 := o7.later a7
        have n7 := o7.nil
        have b_8 := b_7.trans (a7.mono b_7.size)
        obtain ⟨x0, x1, x2, x3, x4, x5, x6, x7, xf⟩ := id Xp
        go_wp2_with fail
        go_at_call 59
        refine (HCK.out _ _ _ _ (hz.later (by exact b_8)) (by exact M1)).mono ?_
        rintro e w9 ⟨rfl, hb_w9⟩
        clear Xp x0 x1 x2 x3 x4 x5 x6 x7 xf
        have b_9 := b_8.trans (hb_w9.mono b_8.size)
        have X1 := X1.later hb_w9
        have H1 := H1.later hb_w9
        have Y5 := Y5.later hb_w9
        have o5 := o5.later hb_w9
        have o7 := o7.later hb_w9
        have H7 := H7.later hb_w9
        clear M1
        obtain ⟨y0, y1, y2, y3, y4, y5, y6, y7, yf⟩ := id Y5
        obtain ⟨h0, h1_, h2, h3, g0, g1, g2, g3⟩ := id H7.box
        go_wp2_with fail
        go_at_call 20
        refine (HSM.out _ _ _ (by exact o5.sm.h) (by exact H7.m)).mono ?_
        rintro e w10 ⟨rfl, hb_w10⟩
        clear h0 h1_ h2 h3 g0 g1 g2 g3 y0 y1 y2 y3 y4 y5 y6 y7 yf
        have b_10 := b_9.trans (hb_w10.mono b_9.size)
        have X1 := X1.later hb_w10
        have H1 := H1.later hb_w10
        have Y5 := Y5.later hb_w10
        have o5 := o5.later hb_w10
        have o7 := o7.later hb_w10
        have H7 := H7.later hb_w10
        obtain ⟨y0, y1, y2, y3, y4, y5, y6, y7, yf⟩ := id Y5
        go_wp2_with fail
        go_at_call 59
        refine (HC3.out _ _ _ _ (hz.later (by exact b_10)) (by exact o5.sm)).mono ?_
        rintro e w11 ⟨rfl, hb_w11⟩
        clear y0 y1 y2 y3 y4 y5 y6 y7 yf
        have b_11 := b_10.trans (hb_w11.mono b_10.size)
        have X1 := X1.later hb_w11
        have H1 := H1.later hb_w11
        have Y5 := Y5.later hb_w11
        have o5 := o5.later hb_w11
        have o7 := o7.later hb_w11
        have H7 := H7.later hb_w11
        have q1 : w.heap.size < w1.heap.size := z1
        have X2 := X1.all (.slice v5.A s3.h.ws.length v5.ca) (.int .i64 s3.h.n) (.slice v5.U s3.h.us.length v5.cu) (.slice v5.V s3.h.l.length v5.cv) (.int .i64 s3.n) (.slice O5 s3.os.length c5) (.int .u64 (s3.fa : Nat)) (.int .u64 (s3.go : Nat))
        have X3 := ((((X2.far (p := ⟨w1.heap.size, 0, none⟩) (by show w1.heap.size ≠ w.heap.size; omega) (.slice v7.A h'.ws.length v7.ca)).far (p := ⟨w1.heap.size, 1, none⟩) (by show w1.heap.size ≠ w.heap.size; omega) (.int .i64 h'.n)).far (p := ⟨w1.heap.size, 2, none⟩) (by show w1.heap.size ≠ w.heap.size; omega) (.slice v7.U h'.us.length v7.cu)).far (p := ⟨w1.heap.size, 3, none⟩) (by show w1.heap.size ≠ w.heap.size; omega) (.slice v7.V h'.l.length v7.cv))
        have o6 := o5.over8 (g := w.heap.size) (Nat.lt_trans q1 q5) (.slice v5.A s3.h.ws.length v5.ca) (.int .i64 s3.h.n) (.slice v5.U s3.h.us.length v5.cu) (.slice v5.V s3.h.l.length v5.cv) (.int .i64 s3.n) (.slice O5 s3.os.length c5) (.int .u64 (s3.fa : Nat)) (.int .u64 (s3.go : Nat))
        have o6h := ((((o6.h.far (p := ⟨w1.heap.size, 0, none⟩) q5 (.slice v7.A h'.ws.length v7.ca)).far (p := ⟨w1.heap.size, 1, none⟩) q5 (.int .i64 h'.n)).far (p := ⟨w1.heap.size, 2, none⟩) q5 (.slice v7.U h'.us.length v7.cu)).far (p := ⟨w1.heap.size, 3, none⟩) q5 (.slice v7.V h'.l.length v7.cv))
        have o6o := ((((o6.o.far (p := ⟨w1.heap.size, 0, none⟩) (.inl q5) (.slice v7.A h'.ws.length v7.ca)).far (p := ⟨w1.heap.size, 1, none⟩) (.inl q5) (.int .i64 h'.n)).far (p := ⟨w1.heap.size, 2, none⟩) (.inl q5) (.slice v7.U h'.us.length v7.cu)).far (p := ⟨w1.heap.size, 3, none⟩) (.inl q5) (.slice v7.V h'.l.length v7.cv))
        have o8 := o7.over8 (g := w.heap.size) (Nat.lt_trans q1 q7) (.slice v5.A s3.h.ws.length v5.ca) (.int .i64 s3.h.n) (.slice v5.U s3.h.us.length v5.cu) (.slice v5.V s3.h.l.length v5.cv) (.int .i64 s3.n) (.slice O5 s3.os.length c5) (.int .u64 (s3.fa : Nat)) (.int .u64 (s3.go : Nat))
        have o8h := ((((o8.far (p := ⟨w1.heap.size, 0, none⟩) q7 (.slice v7.A h'.ws.length v7.ca)).far (p := ⟨w1.heap.size, 1, none⟩) q7 (.int .i64 h'.n)).far (p := ⟨w1.heap.size, 2, none⟩) q7 (.slice v7.U h'.us.length v7.cu)).far (p := ⟨w1.heap.size, 3, none⟩) q7 (.slice v7.V h'.l.length v7.cv))
        have b_12 := below8 (g := w.heap.size) b_11 (Nat.le_refl _) (.slice v5.A s3.h.ws.length v5.ca) (.int .i64 s3.h.n) (.slice v5.U s3.h.us.length v5.cu) (.slice v5.V s3.h.l.length v5.cv) (.int .i64 s3.n) (.slice O5 s3.os.length c5) (.int .u64 (s3.fa : Nat)) (.int .u64 (s3.go : Nat))
        have b_13 := (((b_12.setCell (p := ⟨w1.heap.size, 0, none⟩) (by show w.heap.size ≤ w1.heap.size; omega) (.slice v7.A h'.ws.length v7.ca)).setCell (p := ⟨w1.heap.size, 1, none⟩) (by show w.heap.size ≤ w1.heap.size; omega) (.int .i64 h'.n)).setCell (p := ⟨w1.heap.size, 2, none⟩) (by show w.heap.size ≤ w1.heap.size; omega) (.slice v7.U h'.us.length v7.cu)).setCell (p := ⟨w1.heap.size, 3, none⟩) (by show w.heap.size ≤ w1.heap.size; omega) (.slice v7.V h'.l.length v7.cv)
        have Hb := H1.box
        have Hb := ((((((((Hb.far (p := ⟨w.heap.size, 0, none⟩) (by show w.heap.size ≠ w1.heap.size; omega) (.slice v5.A s3.h.ws.length v5.ca)).far (p := ⟨w.heap.size, 1, none⟩) (by show w.heap.size ≠ w1.heap.size; omega) (.int .i64 s3.h.n)).far (p := ⟨w.heap.size, 2, none⟩) (by show w.heap.size ≠ w1.heap.size; omega) (.slice v5.U s3.h.us.length v5.cu)).far (p := ⟨w.heap.size, 3, none⟩) (by show w.heap.size ≠ w1.heap.size; omega) (.slice v5.V s3.h.l.length v5.cv)).far (p := ⟨w.heap.size, 4, none⟩) (by show w.heap.size ≠ w1.heap.size; omega) (.int .i64 s3.n)).far (p := ⟨w.heap.size, 5, none⟩) (by show w.heap.size ≠ w1.heap.size; omega) (.slice O5 s3.os.length c5)).far (p := ⟨w.heap.size, 6, none⟩) (by show w.heap.size ≠ w1.heap.size; omega) (.int .u64 (s3.fa : Nat))).far (p := ⟨w.heap.size, 7, none⟩) (by show w.heap.size ≠ w1.heap.size; omega) (.int .u64 (s3.go : Nat)))
        have Hb2 := Hb.all (.slice v7.A h'.ws.length v7.ca) (.int .i64 h'.n) (.slice v7.U h'.us.length v7.cu) (.slice v7.V h'.l.length v7.cv)
        have HX3 := Lib.hid X3
        have HM3 := Lib.hid (OwnsSc.mk (s := s3) o6h o6o).sm
        have HN5 := Lib.hid n5
        have HN7 := Lib.hid n7
        have HHI0 : HIn _ w1.heap.size v7 h' := ⟨Hb2, o8h.hm⟩
        have HHI := Lib.hid (HIn.of_eq HH3.out HHI0)
        have HB13 := Lib.hid b_13
        clear HHI0 X2 X3 o6 o6h o6o o8 o8h b_12 b_13 Hb Hb2 o5 o7
        have zx := X1.lt
        have zh := H1.lt
        obtain ⟨x0, x1, x2, x3, x4, x5, x6, x7, xf⟩ := id X1
        obtain ⟨h0, h1_, h2, h3, g0, g1, g2, g3⟩ := id H1.box
        obtain ⟨y0, y1, y2, y3, y4, y5, y6, y7, yf⟩ := id Y5
        obtain ⟨k0, k1, k2, k3, l0, l1, l2, l3⟩ := id H7.box
        clear X1 H1 Y5 H7
        go_wp2_with fail
        go_region
        (try simp only [Exit.then, Exit.inBlock])
        go_wp2
        go_roundw
        case rel => exact ⟨k + 1, v5, O5, c5, s3, v7, by go_num, by omega, by omega, HOK3, HFA3, HX3.out.later (Below.drew (Below.refl _ _)), Lib.hid (HM3.out.later (Below.drew (Below.refl _ _))), HN5, HHI.out.later (Below.drew (Below.refl _ _)), HN7, Below.drew HB13.out⟩
        case measure => simp [intOf]; try omega
    · obtain rfl : k = xs.length := by omega
      have b_x := b_wr
      obtain ⟨h9, t9, y9, EC⟩ := ClnE.ex s1.h f
      obtain ⟨s9, ES, hh9⟩ := ClE.of ok1 EC
      obtain ⟨hs9, ht9⟩ := ClnE.short_ ok1.h EC
      have HCL := Lib.hid fun (w : World) (v : Hv) (O : Option Addr) (co : Nat) z m n => fclean_any (w := w) (v := v) (O := O) (s := s1) co z m ok1.h.short n f s9 t9 y9 ES
      have HHC := Lib.hid fun (w : World) (v : Hv) z m n => zcleanH_any (w := w) (v := v) (h := s1.h) z m ok1.h.lens.1 ok1.h.lens.2 n f h9 t9 y9 EC
      have HCK := Lib.hid fun (w : World) (v : Hv) (O : Option Addr) (co : Nat) z m => fcheck_any (w := w) (v := v) (O := O) (s := s1) co z m ok1.h.short 0 (.inl ⟨ok1, rfl⟩)
      have HSA := Lib.hid fun (w : World) (A C : Option Addr) (ca cc : Nat) hr hq => hsameaddrs_any (w := w) (A := A) (C := C) (t := t9) ca cc (by omega) hr hq
      have HSM := Lib.hid fun (w : World) (v v' : Hv) (m : HM w w.heap.size v s9.h) (m' : HM w w.heap.size v' h9) => (show Calls Tryz.prog 20 #[hpV v s9.h, hpV v' h9] w (fun e w' => e = .returned (.bool true) ∧ Below w.heap.size w w') by rw [hh9] at m ⊢; exact hsame_any m m' hs9)
      have fy : (y9 == y9) = true := by simp
      have HT9 := Lib.hid ht9
      clear EC ES hh9 hs9 ht9
      unfold FreshSw at HCL
      unfold FreshHw at HHC
      unfold scV at HCL HCK
      unfold hpV hpv at HHC HSM
      obtain ⟨x0, x1, x2, x3, x4, x5, x6, x7, xf⟩ := id X1
      go_wp2_with fail
      go_at_call 45
      refine (HCL.out _ _ _ _ (hz.later (by exact b_x)) (by exact M1) n1).mono ?_
      rintro e u1 ⟨v7, O7, c7, A7, k7, rfl, o7, r7, hb_u1⟩
      clear x0 x1 x2 x3 x4 x5 x6 x7 xf
      have b_1 := b_x.trans (hb_u1.mono b_x.size)
      have X1 := X1.later hb_u1
      have M1 := M1.later hb_u1
      have H1 := H1.later hb_u1
      have X1p := X1
      have H1p := H1
      have zx := X1.lt
      have zh := H1.lt
      have a1 : Below u1.heap.size u1 (u1.alloc (.cells #[.slice v7.A s9.h.ws.length v7.ca, .int .i64 s9.h.n, .slice v7.U s9.h.us.length v7.cu, .slice v7.V s9.h.l.length v7.cv, .int .i64 s9.n, .slice O7 s9.os.length c7, .int .u64 (s9.fa : Nat), .int .u64 (s9.go : Nat)] 64)) := Below.alloc (Below.refl _ _) (Nat.le_refl _) _
      have Y7 := E8.new u1 (.slice v7.A s9.h.ws.length v7.ca) (.int .i64 s9.h.n) (.slice v7.U s9.h.us.length v7.cu) (.slice v7.V s9.h.l.length v7.cv) (.int .i64 s9.n) (.slice O7 s9.os.length c7) (.int .u64 (s9.fa : Nat)) (.int .u64 (s9.go : Nat)) 64
      have X1 := X1.later a1
      have M1 := M1.later a1
      have H1 := H1.later a1
      have M7 := o7.sm.later a1
      have R7 := r7.row.later a1
      have b_2 := b_1.trans (a1.mono b_1.size)
      obtain ⟨h0, h1_, h2, h3, g0, g1, g2, g3⟩ := id H1p.box
      go_wp2_with fail
      go_at_call 40
      refine (HHC.out _ _ (hz.later (by exact b_2)) (by exact H1.m) nh).mono ?_
      rintro e u2 ⟨v8, A8, k8, rfl, o8, r8, hb_u2⟩
      clear h0 h1_ h2 h3 g0 g1 g2 g3 X1p H1p
      have b_3 := b_2.trans (hb_u2.mono b_2.size)
      have X1 := X1.later hb_u2
      have M1 := M1.later hb_u2
      have Y7 := Y7.later hb_u2
      have M7 := M7.later hb_u2
      have R7 := R7.later hb_u2
      have X1p := X1
      have Y7p := Y7
      have zx := X1.lt
      have zy := Y7.lt
      have a2 : Below u2.heap.size u2 (u2.alloc (.cells #[.slice v8.A h9.ws.length v8.ca, .int .i64 h9.n, .slice v8.U h9.us.length v8.cu, .slice v8.V h9.l.length v8.cv] 31)) := Below.alloc (Below.refl _ _) (Nat.le_refl _) _
      have H8 := HIn.new o8.hm 31
      have X1 := X1.later a2
      have M1 := M1.later a2
      have Y7 := Y7.later a2
      have M7 := M7.later a2
      have R7 := R7.later a2
      have R8 := r8.row.later a2
      have b_4 := b_3.trans (a2.mono b_3.size)
      obtain ⟨x0, x1, x2, x3, x4, x5, x6, x7, xf⟩ := id X1p
      go_wp2_with fail
      go_at_call 59
      refine (HCK.out _ _ _ _ (hz.later (by exact b_4)) (by exact M1)).mono ?_
      rintro e u3 ⟨rfl, hb_u3⟩
      clear x0 x1 x2 x3 x4 x5 x6 x7 xf
      have b_5 := b_4.trans (hb_u3.mono b_4.size)
      have Y7 := Y7.later hb_u3
      have M7 := M7.later hb_u3
      have R7 := R7.later hb_u3
      have R8 := R8.later hb_u3
      have H8 := H8.later hb_u3
      clear X1 X1p Y7p M1 H1 o7 r7 o8 r8
      go_wp2_with fail
      go_at_call 37
      refine (HSA.out _ _ _ _ _ (by exact R7) (by exact R8)).mono ?_
      rintro e u4 ⟨rfl, hb_u4⟩
      have b_6 := b_5.trans (hb_u4.mono b_5.size)
      have Y7 := Y7.later hb_u4
      have M7 := M7.later hb_u4
      have H8 := H8.later hb_u4
      obtain ⟨y0, y1, y2, y3, y4, y5, y6, y7, yf⟩ := id Y7
      obtain ⟨h0, h1_, h2, h3, g0, g1, g2, g3⟩ := id H8.box
      go_wp2_with fail
      go_at_call 20
      refine (HSM.out _ _ _ (by exact M7.h) (by exact H8.m)).mono ?_
      rintro e u5 ⟨rfl, hb_u5⟩
      have b_7 := b_6.trans (hb_u5.mono b_6.size)
      clear h0 h1_ h2 h3 g0 g1 g2 g3 y0 y1 y2 y3 y4 y5 y6 y7 yf
      go_wp2
      go_ret
      exact ⟨rfl, b_7⟩
set_option maxHeartbeats 8000000 in
theorem scavSame_bad (v : Hv) (O : Option Addr) (co : Nat) (s : Sc) (A : Option Addr) (ca : Nat) (xs : List Shp) (f q : Int) (w : World) (hz : Sizes w) (m : SM w v O s) (hs : Short s.h) (hnil : v.V = none → v.cv = 0) (hlo : s.os.length ≤ 17592186044416) (hfa : s.fa < W64) (hgo : s.go < W64) (hr : ShpRow w w.heap.size A xs) (hl : xs.length ≤ 17592186044416) (hq : -9223372036854775808 ≤ q ∧ q ≤ 9223372036854775807) (hk : ¬ OkS s) :
    Calls Tryz.prog 9 #[scV v O co s, .slice A xs.length ca, .int .i64 f, .int .i64 q] w fun e w' => e = .returned (.bool true) ∧ Below w.heap.size w w' := by
  have X0 := E8.new w (.slice v.A s.h.ws.length v.ca) (.int .i64 s.h.n) (.slice v.U s.h.us.length v.cu) (.slice v.V s.h.l.length v.cv) (.int .i64 s.n) (.slice O s.os.length co) (.int .u64 (s.fa : Nat)) (.int .u64 (s.go : Nat)) 64
  have M0 := m.later ((Below.refl _ _).alloc (Nat.le_refl _) (.cells #[.slice v.A s.h.ws.length v.ca, .int .i64 s.h.n, .slice v.U s.h.us.length v.cu, .slice v.V s.h.l.length v.cv, .int .i64 s.n, .slice O s.os.length co, .int .u64 (s.fa : Nat), .int .u64 (s.go : Nat)] 64))
  have z0 := X0.lt
  clear m hfa
  unfold scV
  go_enter Tryz.func9, Tryz.ntmps9
  go_wp2_with fail
  go_at_call 51
  refine (flives_any _ (hz.later bX)).mono ?_
  rintro e w1 ⟨rfl, hb_w1⟩
  have b_w1 : Below w.heap.size w w1 := bX
  replace X0 := X0.later hb_w1
  replace M0 := M0.later hb_w1
  obtain ⟨X0_0, X0_1, X0_2, X0_3, X0_4, X0_5, X0_6, X0_7, X0_f⟩ := id X0
  have ah : Below w1.heap.size w1 (w1.alloc (.cells #[.slice v.A s.h.ws.length v.ca, .int .i64 s.h.n, .slice v.U s.h.us.length v.cu, .slice v.V s.h.l.length v.cv] 31)) := Below.alloc (Below.refl _ _) (Nat.le_refl _) _
  have HH := HIn.new M0.h 31
  have z1 := X0.lt
  have X1 := X0.later ah
  have MM := Lib.hid (M0.later ah)
  have b_h := b_w1.trans (ah.mono b_w1.size)
  have w1l := b_w1.size
  go_wp2_with fail
  clear X0_0 X0_1 X0_2 X0_3 X0_4 X0_5 X0_6 X0_7 X0_f
  clear ah X0 M0
  go_loopw [33] (fun kv wr => kv = .int .i64 0 ∧ E8 wr w.heap.size (.slice v.A s.h.ws.length v.ca) (.int .i64 s.h.n) (.slice v.U s.h.us.length v.cu) (.slice v.V s.h.l.length v.cv) (.int .i64 s.n) (.slice O s.os.length co) (.int .u64 (s.fa : Nat)) (.int .u64 (s.go : Nat)) ∧ Hid (SM wr v O s) ∧ HIn wr w1.heap.size v s.h ∧ Below w.heap.size w wr) (fun kv _ => 1)
  case atStart => exact ⟨rfl, X1, MM, HH, b_h⟩
  case round =>
    clear X1 MM HH b_h
    obtain ⟨rfl, X1, HM1, H1, b_wr⟩ := hrel
    have M1 := HM1.out
    have n1 := hnil
    have nh := hnil
    have zx := X1.lt
    have zh := H1.lt
    by_cases hlt : 0 < xs.length
    · obtain ⟨bk, off, rfl, hbl, hc⟩ := (hr.later b_wr) (by omega)
      obtain ⟨hmk, d0, d1⟩ := hc 0 hlt
      have i1 : (0 : Int) < (xs.length : Int) := by omega
      obtain ⟨sn, sm⟩ : ∃ z : Shp, Hid (nthF xs 0 = z) := ⟨_, Lib.hid rfl⟩
      rw [sm.out] at hmk d0 d1
      obtain ⟨n, mk⟩ := sn
      simp only [Nat.zero_mul, Nat.add_zero] at hmk d0 d1
      clear hc
      have aS : Below wr.heap.size wr (wr.alloc (.cells #[.int .i64 n, .int .u64 (mk : Nat)] 34)) := Below.alloc (Below.refl _ _) (Nat.le_refl _) _
      have P1 := Two.new wr (.int .i64 n) (.int .u64 (mk : Nat)) 34
      have b_x := b_wr.trans (aS.mono b_wr.size)
      have X1p := X1
      have H1p := H1
      have X1 := X1.later aS
      have M1 := M1.later aS
      have H1 := H1.later aS
      obtain ⟨s2, E2, E3, sh2, fa2⟩ : ∃ s2, RelE s q s2 0 2 ∧ NwE s2 n mk false s2 0 2 ∧ Short s2.h ∧ s2.fa < W64 := ⟨sc0, .inl ⟨hk, rfl, rfl, rfl⟩, .inl ⟨sc0_bad, rfl, rfl, rfl⟩, short0, by decide⟩
      obtain ⟨h', a, y3, EN⟩ := NewE.ex s.h n mk false
      have HR := Lib.hid fun (w : World) (v : Hv) (O : Option Addr) (co : Nat) z m n => frelease_any (w := w) (v := v) (O := O) (s := s) co z m hs n q hq s2 0 2 E2
      have HN := Lib.hid fun (w : World) (v : Hv) (O : Option Addr) (co : Nat) z m nn => fnew_any (w := w) (v := v) (O := O) (s := s2) co z m sh2 nn fa2 n mk hmk false s2 0 2 E3
      have HHN := Lib.hid fun (w : World) (v : Hv) z m nn => znewH_any (w := w) (v := v) (h := s.h) z m (Nat.le_trans hs.l (by decide)) hs.ws nn n mk hmk false h' a y3 EN
      have HCK := Lib.hid fun (w : World) (v : Hv) (O : Option Addr) (co : Nat) z m => fcheck_any (w := w) (v := v) (O := O) (s := s) co z m hs 2 (.inr ⟨hk, rfl⟩)
      clear E2 E3 sh2 fa2 EN
      unfold FreshSi at HR
      unfold FreshSa at HN
      unfold FreshHa at HHN
      unfold scV at HR HN HCK
      unfold hpV hpv at HHN
      obtain ⟨x0, x1, x2, x3, x4, x5, x6, x7, xf⟩ := id X1p
      go_wp2_with fail
      go_at_call 47
      refine (HR.out _ _ _ _ (hz.later (by exact b_x)) (by exact M1) n1).mono ?_
      rintro e w3 ⟨v3, O3, c3, rfl, o3, hb_w3⟩
      clear x0 x1 x2 x3 x4 x5 x6 x7 xf
      have b_3 := b_x.trans (hb_w3.mono b_x.size)
      have X1 := X1.later hb_w3
      have M1 := M1.later hb_w3
      have H1 := H1.later hb_w3
      have P1 := P1.later hb_w3
      have Pp := P1
      have pz := World.block_lt_of_cell? _ _ Pp.c0
      have a3 : Below w3.heap.size w3 (w3.alloc (.cells #[.slice v3.A s2.h.ws.length v3.ca, .int .i64 s2.h.n, .slice v3.U s2.h.us.length v3.cu, .slice v3.V s2.h.l.length v3.cv, .int .i64 s2.n, .slice O3 s2.os.length c3, .int .u64 (s2.fa : Nat), .int .u64 (s2.go : Nat)] 64)) := Below.alloc (Below.refl _ _) (Nat.le_refl _) _
      have Y3 := E8.new w3 (.slice v3.A s2.h.ws.length v3.ca) (.int .i64 s2.h.n) (.slice v3.U s2.h.us.length v3.cu) (.slice v3.V s2.h.l.length v3.cv) (.int .i64 s2.n) (.slice O3 s2.os.length c3) (.int .u64 (s2.fa : Nat)) (.int .u64 (s2.go : Nat)) 64
      have X1 := X1.later a3
      have M1 := M1.later a3
      have H1 := H1.later a3
      have P1 := P1.later a3
      have M3 := o3.sm.later a3
      have n3 := o3.h.nil
      have q5 := H1.lt
      have b_4 := b_3.trans (a3.mono b_3.size)
      clear X1p H1p aS o3 hb_w3
      obtain ⟨y0, y1, y2, y3, y4, y5, y6, y7, yf⟩ := id Y3
      obtain ⟨p0, p1, pf⟩ := id Pp
      go_wp2_with fail
      go_at_call 43
      refine (HN.out _ _ _ _ (hz.later (by exact b_4)) (by exact M3) n3).mono ?_
      rintro e w5 ⟨v5, O5, c5, rfl, o5, hb_w5⟩
      clear p0 p1 pf Pp pz y0 y1 y2 y3 y4 y5 y6 y7 yf
      have b_5 := b_4.trans (hb_w5.mono b_4.size)
      have X1 := X1.later hb_w5
      have M1 := M1.later hb_w5
      have H1 := H1.later hb_w5
      have P1 := P1.later hb_w5
      have Hp5 := H1
      have Pp := P1
      have pz := World.block_lt_of_cell? _ _ Pp.c0
      have zh := H1.lt
      have a5 : Below w5.heap.size w5 (w5.alloc (.cells #[.slice v5.A s2.h.ws.length v5.ca, .int .i64 s2.h.n, .slice v5.U s2.h.us.length v5.cu, .slice v5.V s2.h.l.length v5.cv, .int .i64 s2.n, .slice O5 s2.os.length c5, .int .u64 (s2.fa : Nat), .int .u64 (s2.go : Nat)] 64)) := Below.alloc (Below.refl _ _) (Nat.le_refl _) _
      have Y5 := E8.new w5 (.slice v5.A s2.h.ws.length v5.ca) (.int .i64 s2.h.n) (.slice v5.U s2.h.us.length v5.cu) (.slice v5.V s2.h.l.length v5.cv) (.int .i64 s2.n) (.slice O5 s2.os.length c5) (.int .u64 (s2.fa : Nat)) (.int .u64 (s2.go : Nat)) 64
      have X1 := X1.later a5
      have M1 := M1.later a5
      have H1 := H1.later a5
      have o5 := o5.later a5
      have n5 := o5.h.nil
      have q7 := H1.lt
      have b_6 := b_5.trans (a5.mono b_5.size)
      skip
      obtain ⟨h0, h1_, h2, h3, g0, g1, g2, g3⟩ := id Hp5.box
      obtain ⟨p0, p1, pf⟩ := id Pp
      go_wp2_with fail
      go_at_call 15
      refine (HHN.out _ _ (hz.later (by exact b_6)) (by exact H1.m) nh).mono ?_
      rintro e w7 ⟨v7, rfl, o7, hb_w7⟩
      clear h0 h1_ h2 h3 g0 g1 g2 g3 p0 p1 pf Pp Hp5 pz P1
      have b_7 := b_6.trans (hb_w7.mono b_6.size)
      have X1 := X1.later hb_w7
      have M1 := M1.later hb_w7
      have H1 := H1.later hb_w7
      have Y5 := Y5.later hb_w7
      have o5 := o5.later hb_w7
      have Xp := X1
      have zx := X1.lt
      have a7 : Below w7.heap.size w7 (w7.alloc (.cells #[.slice v7.A h'.ws.length v7.ca, .int .i64 h'.n, .slice v7.U h'.us.length v7.cu, .slice v7.V h'.l.length v7.cv] 31)) := Below.alloc (Below.refl _ _) (Nat.le_refl _) _
      have H7 := HIn.new o7.hm 31
      have X1 := X1.later a7
      have M1 := M1.later a7
      have H1 := H1.later a7
      have Y5 := Y5.later a7
      have o5 := o5.later a7
      have o7 := o7.later a7
      have n7 := o7.nil
      have b_8 := b_7.trans (a7.mono b_7.size)
      obtain ⟨x0, x1, x2, x3, x4, x5, x6, x7, xf⟩ := id Xp
      go_wp2_with fail
      go_at_call 59
      refine (HCK.out _ _ _ _ (hz.later (by exact b_8)) (by exact M1)).mono ?_
      rintro e w9 ⟨rfl, hb_w9⟩
      clear Xp x0 x1 x2 x3 x4 x5 x6 x7 xf
      have b_9 := b_8.trans (hb_w9.mono b_8.size)
      have X1 := X1.later hb_w9
      have H1 := H1.later hb_w9
      have Y5 := Y5.later hb_w9
      have o5 := o5.later hb_w9
      have o7 := o7.later hb_w9
      have H7 := H7.later hb_w9
      clear M1
      obtain ⟨y0, y1, y2, y3, y4, y5, y6, y7, yf⟩ := id Y5
      obtain ⟨h0, h1_, h2, h3, g0, g1, g2, g3⟩ := id H7.box
      go_wp2
      go_ret
      exact ⟨rfl, b_9⟩
    · obtain rfl : xs = [] := List.eq_nil_of_length_eq_zero (by omega)
      have b_x := b_wr
      obtain ⟨s9, t8, ES⟩ : ∃ s9 t8, ClE s f s9 t8 2 := ⟨sc0, [], .inl ⟨hk, rfl, rfl, rfl⟩⟩
      obtain ⟨h9, t9, y9, EC⟩ := ClnE.ex s.h f
      have HCL := Lib.hid fun (w : World) (v : Hv) (O : Option Addr) (co : Nat) z m n => fclean_any (w := w) (v := v) (O := O) (s := s) co z m hs n f s9 t8 2 ES
      have HHC := Lib.hid fun (w : World) (v : Hv) z m n => zcleanH_any (w := w) (v := v) (h := s.h) z m (Nat.le_trans hs.l (by decide)) hs.ws n f h9 t9 y9 EC
      have HCK := Lib.hid fun (w : World) (v : Hv) (O : Option Addr) (co : Nat) z m => fcheck_any (w := w) (v := v) (O := O) (s := s) co z m hs 2 (.inr ⟨hk, rfl⟩)
      clear EC ES
      unfold FreshSw at HCL
      unfold FreshHw at HHC
      unfold scV at HCL HCK
      unfold hpV hpv at HHC
      obtain ⟨x0, x1, x2, x3, x4, x5, x6, x7, xf⟩ := id X1
      go_wp2_with fail
      go_at_call 45
      refine (HCL.out _ _ _ _ (hz.later (by exact b_x)) (by exact M1) n1).mono ?_
      rintro e u1 ⟨v7, O7, c7, A7, k7, rfl, o7, r7, hb_u1⟩
      clear x0 x1 x2 x3 x4 x5 x6 x7 xf
      have b_1 := b_x.trans (hb_u1.mono b_x.size)
      have X1 := X1.later hb_u1
      have M1 := M1.later hb_u1
      have H1 := H1.later hb_u1
      have X1p := X1
      have H1p := H1
      have zx := X1.lt
      have zh := H1.lt
      have a1 : Below u1.heap.size u1 (u1.alloc (.cells #[.slice v7.A s9.h.ws.length v7.ca, .int .i64 s9.h.n, .slice v7.U s9.h.us.length v7.cu, .slice v7.V s9.h.l.length v7.cv, .int .i64 s9.n, .slice O7 s9.os.length c7, .int .u64 (s9.fa : Nat), .int .u64 (s9.go : Nat)] 64)) := Below.alloc (Below.refl _ _) (Nat.le_refl _) _
      have Y7 := E8.new u1 (.slice v7.A s9.h.ws.length v7.ca) (.int .i64 s9.h.n) (.slice v7.U s9.h.us.length v7.cu) (.slice v7.V s9.h.l.length v7.cv) (.int .i64 s9.n) (.slice O7 s9.os.length c7) (.int .u64 (s9.fa : Nat)) (.int .u64 (s9.go : Nat)) 64
      have X1 := X1.later a1
      have M1 := M1.later a1
      have H1 := H1.later a1
      have M7 := o7.sm.later a1
      have b_2 := b_1.trans (a1.mono b_1.size)
      obtain ⟨h0, h1_, h2, h3, g0, g1, g2, g3⟩ := id H1p.box
      go_wp2_with fail
      go_at_call 40
      refine (HHC.out _ _ (hz.later (by exact b_2)) (by exact H1.m) nh).mono ?_
      rintro e u2 ⟨v8, A8, k8, rfl, o8, r8, hb_u2⟩
      clear h0 h1_ h2 h3 g0 g1 g2 g3 X1p H1p
      have b_3 := b_2.trans (hb_u2.mono b_2.size)
      have X1 := X1.later hb_u2
      have M1 := M1.later hb_u2
      have Y7 := Y7.later hb_u2
      have M7 := M7.later hb_u2
      have X1p := X1
      have Y7p := Y7
      have zx := X1.lt
      have zy := Y7.lt
      have a2 : Below u2.heap.size u2 (u2.alloc (.cells #[.slice v8.A h9.ws.length v8.ca, .int .i64 h9.n, .slice v8.U h9.us.length v8.cu, .slice v8.V h9.l.length v8.cv] 31)) := Below.alloc (Below.refl _ _) (Nat.le_refl _) _
      have H8 := HIn.new o8.hm 31
      have X1 := X1.later a2
      have M1 := M1.later a2
      have Y7 := Y7.later a2
      have M7 := M7.later a2
      have b_4 := b_3.trans (a2.mono b_3.size)
      obtain ⟨x0, x1, x2, x3, x4, x5, x6, x7, xf⟩ := id X1p
      go_wp2_with fail
      go_at_call 59
      refine (HCK.out _ _ _ _ (hz.later (by exact b_4)) (by exact M1)).mono ?_
      rintro e u3 ⟨rfl, hb_u3⟩
      clear x0 x1 x2 x3 x4 x5 x6 x7 xf
      have b_5 := b_4.trans (hb_u3.mono b_4.size)
      have Y7 := Y7.later hb_u3
      have M7 := M7.later hb_u3
      have H8 := H8.later hb_u3
      clear X1 X1p Y7p M1 H1 o7 r7 o8 r8
      go_wp2
      go_ret
      exact ⟨rfl, b_5⟩
theorem scavSame_walk (v : Hv) (O : Option Addr) (co : Nat) (s : Sc) (A : Option Addr) (ca : Nat) (xs : List Shp) (f q : Int) (w : World) (hz : Sizes w) (m : SM w v O s) (hs : Short s.h) (hnil : v.V = none → v.cv = 0) (hlo : s.os.length ≤ 17592186044416) (hfa : s.fa < W64) (hgo : s.go < W64) (hr : ShpRow w w.heap.size A xs) (hl : xs.length ≤ 17592186044416) (hq : -9223372036854775808 ≤ q ∧ q ≤ 9223372036854775807) :
    Calls Tryz.prog 9 #[scV v O co s, .slice A xs.length ca, .int .i64 f, .int .i64 q] w fun e w' => e = .returned (.bool true) ∧ Below w.heap.size w w' := by
  by_cases hk : OkS s
  · exact scavSame_ok v O co s A ca xs f q w hz m hs hnil hlo hfa hgo hr hl hq hk
  · exact scavSame_bad v O co s A ca xs f q w hz m hs hnil hlo hfa hgo hr hl hq hk
end Go.Proofs.YtkfmbhlefppkhaaGreatDoor
namespace Go.Proofs.YtkfmbhlefppkhaaGreatDoor
open Go.ChangeShapes Go.WideShapes Go.ChangeAt Go.RowKit Go.Joins
theorem cells_shape : Tryz.prog.cellsOf 34 = 2 := by kernel_rfl
section
variable {H : Type} {enc : TypeId × Value → H} {W : World}
end
end Go.Proofs.YtkfmbhlefppkhaaGreatDoor
namespace Go.Proofs.YtkfmbhlefppkhaaGreatDoor
open Go.ChangeShapes Go.WideShapes Go.ChangeAt Go.RowKit Go.Joins
theorem bytes_shape : Tryz.prog.bytesOf 34 = 16 := by kernel_rfl
section
variable {H : Type} {enc : TypeId × Value → H} {W : World}
theorem open_shp {fuel : Nat} {cs : List Value} {x : DataW H × List MemPlace} (h : DataW.trod enc Tryz.prog W 0 (fun _ => true) true fuel 34 cs = some x) : ∃ s : Shp, cs = shpc s ∧ s.m < W64 := by
  obtain ⟨xs, n, _, _, hlen, hxl, hf⟩ := DataW.trod_struct Tryz.underlying34 h
  rw [cells_shape] at hlen
  match cs, hlen, xs, hxl with
  | [v0, v1], _, [y0, y1], _ =>
    have g0 := hf 0 _ rfl
    have g1 := hf 1 _ rfl
    obtain ⟨a, e0, _⟩ := DataW.trod_int Tryz.underlying3 (show DataW.trod enc Tryz.prog W 0 (fun _ => true) true n 3 [v0] = some y0 from g0)
    obtain ⟨k, e1, _, wk⟩ := DataW.trod_int Tryz.underlying32 (show DataW.trod enc Tryz.prog W 0 (fun _ => true) true n 32 [v1] = some y1 from g1)
    injection e0 with e0
    injection e1 with e1
    have bk := bounds_u64 wk
    refine ⟨⟨a, k.toNat⟩, ?_, ?_⟩
    · rw [e0, e1]
      unfold shpc
      simp only [Int.toNat_of_nonneg bk.1]
    · unfold W64
      show k.toNat < _; omega
theorem okWide_shps {r : Reach} {b0 : Nat} {v : Value} (hv : Value.okWide Tryz.prog W r b0 83 v) : v.cells.toList = [v] := by
  simp only [Value.okWide, Tryz.underlying83, Cell.okWide] at hv
  cases v <;> simp_all [Cell.ok, Value.cells]
theorem open_shapes {r : Reach} {b0 : Nat} {v : Value} {d : DataW H} {p : List MemPlace} (hv : Value.okWide Tryz.prog W r b0 83 v) (h : DataW.Trod enc Tryz.prog W 0 (fun _ => true) true 83 v d p) (hw : ∀ x ∈ d.weights Tryz.prog 83, x ≤ reachBytes) :
    ∃ (A : Option Addr) (cap : Nat) (l : List Shp), v = .slice A l.length cap ∧ ShpRow W W.heap.size A l ∧ l.length ≤ 17592186044416 := by
  obtain ⟨fuel, hf⟩ := h
  rw [okWide_shps hv] at hf
  rcases Go.Deep.open_slice Tryz.underlying83 hf with ⟨hcs, _⟩ | ⟨a, len, cap, m, n, D, Pl, hcs, _, hlc, hcm, hm, hx, hel⟩
  · injection hcs with hcs
    exact ⟨none, 0, [], hcs, fun h => by simp at h, Nat.zero_le _⟩
  · injection hcs with hcs
    simp only [if_true] at hm
    have hm := hm.symm
    subst hm
    have each : ∀ i, i < cap → ∃ s : Shp, s.m < W64 ∧ ∀ j v, (shpc s)[j]? = some v → W.cell? ((a.add (i * 2)).add j) = some v := fun i hi => by
      obtain ⟨cs', h1, h2⟩ := hel i hi
      obtain ⟨s, rfl, hs⟩ := open_shp h2
      rw [cells_shape] at h1
      obtain ⟨_, _, hc⟩ := World.cells?_some h1
      refine ⟨s, hs, fun j v hj => ?_⟩
      have hj3 : j < 2 := by
        have := (List.getElem?_eq_some_iff.1 hj).1
        simpa [shpc] using this
      rw [hc j hj3]
      exact hj
    obtain ⟨f, hfs⟩ : ∃ f : Nat → Shp, ∀ i, i < cap → (f i).m < W64 ∧ ∀ j v, (shpc (f i))[j]? = some v → W.cell? ((a.add (i * 2)).add j) = some v := Go.Deep.choose_lt each
    have hlen : ((List.range len).map f).length = len := by simp
    refine ⟨some a, cap, (List.range len).map f, by rw [hlen]; exact hcs, fun h0 => ?_, ?_⟩
    · rw [hlen] at h0
      obtain ⟨b, off, spot⟩ := a
      have hc0 := (hfs 0 (by omega)).2 0 _ rfl
      have hspot : spot = none := by simpa [Addr.add] using World.cell?_spot hc0
      subst hspot
      refine ⟨b, off, rfl, World.block_lt_of_cell? W _ (by simpa [add_form] using hc0), fun i hi => ?_⟩
      replace hi : i < len := by simpa using hi
      have e : nthF ((List.range len).map f) i = f i := by
        unfold nthF
        simp [List.getD_eq_getElem?_getD, hi]
      rw [e]
      obtain ⟨q1, hq⟩ := hfs i (by omega)
      have k0 := hq 0 _ rfl
      have k1 := hq 1 _ rfl
      rw [add_form, add_form] at k0 k1
      exact ⟨q1, by simpa using k0, k1⟩
    · rw [hlen]
      have := hw (((List.range len).map D).length * 16 + ((List.range (cap - len)).map fun j => D (len + j)).length * 16) (by
        rw [show d = _ from congrArg Prod.fst hx]
        simp [DataW.weights, Tryz.underlying83, bytes_shape, Nat.add_mul])
      simp only [List.length_map, List.length_range, reachBytes] at this
      omega
end
end Go.Proofs.YtkfmbhlefppkhaaGreatDoor
