/- parts Leaf, Ref, Own, Copy, Agree, S29, S30, Z38, P3, Z43, Z44 -/
import Derived.Test.YtogfbdeplogcfaaGreatDoorMY19
import Derived.WalkKit
import Derived.BigQuiet
import Derived.Deep.QuietTactic
import Derived.WalkLawsBesides
import Derived.WalkSpells
import Derived.Lib.Hide
import Derived.Outline
import Derived.Test.YtogfbdeplogcfaaGreatDoorProg
import Derived.LoopTactic
import Derived.Deep.AppendLies
set_option linter.unusedVariables false
set_option linter.unusedSimpArgs false
namespace Go.Proofs.YtogfbdeplogcfaaGreatDoor
open Go.RowKit

theorem ret_bool {a b : Bool} (h : a = b) : Ending.returned (.bool a) = .returned (.bool b) := by rw [h]
end Go.Proofs.YtogfbdeplogcfaaGreatDoor
namespace Go.Proofs.YtogfbdeplogcfaaGreatDoor
open Go.RowKit

section
variable (n : Int) (A : Option Addr) (len cap : Nat) (w : World)
end

def SameTo (ws ws' : List Nat) (k : Nat) : Prop := ∀ j, j < k → ws.getD j 0 = ws'.getD j 0
theorem same_loop (n : Int) (A A' : Option Addr) (cap cap' : Nat) (ws ws' : List Nat) (w : World) (hr : Row w w.heap.size A ws) (hr' : Row w w.heap.size A' ws') (hl : ws.length = ws'.length) (hm : ws.length ≤ maxLen) :
    Calls Tryz.prog 138 #[.agg #[.int .i64 n, .slice A ws.length cap], .agg #[.int .i64 n, .slice A' ws.length cap']] w fun e w' => e = .returned (.bool (decide (ws = ws'))) ∧ Below w.heap.size w w' := by
  unfold maxLen at hm
  have H := Lib.hid hl
  clear hl
  have hd : (n != n) = false := by simp
  have hd2 : ((ws.length : Int) != (ws.length : Int)) = false := by simp
  go_enter Tryz.func138, Tryz.ntmps138
  go_wp2
  go_loopw [23] (fun i wr => ∃ k m : Nat, i = .int .i64 k ∧ k ≤ ws.length ∧ SameTo ws ws' k ∧ wr = ((w.alloc (Obj.cells #[Value.int IntKind.i64 n, Value.slice A ws.length cap] 26)).alloc (Obj.cells #[Value.int IntKind.i64 n, Value.slice A' ws.length cap'] 26)).drewN m)
    (fun i _ => ws.length - (intOf i).toNat)
  case atStart => exact ⟨0, 0, rfl, Nat.zero_le _, fun j h => by omega, rfl⟩
  case round =>
    obtain ⟨k, m, rfl, hk, hs, rfl⟩ := hrel
    by_cases hlt : k < ws.length
    · obtain ⟨b, off, rfl, hb, hc⟩ := hr.at_ (by omega)
      obtain ⟨b', off', rfl, hb', hc'⟩ := hr'.at_ (by have := H.out; omega)
      have hck := hc k hlt
      have hck' := hc' k (by have := H.out; omega)
      obtain ⟨x, hx⟩ := named ws k
      obtain ⟨x', hx'⟩ := named ws' k
      rw [hx.out] at hck
      rw [hx'.out] at hck'
      clear hc hc'
      go_wp2
      go_quiet (fail)
      go_wp2
      · have ht : ((x : Int) != (x' : Int)) = true := by assumption
        go_ret
        refine ⟨ret_bool (decide_eq_false ?_).symm, (by repeat (first|exact bR _ _|assumption|refine bN ?_ _|refine bD ?_|refine bA ?_ (by first|omega|simp;omega|simp) _|refine bS ?_ (by first|omega|simp;omega|simp) _|refine bT ?_ (by assumption) (by first|omega|simp;omega|simp)))⟩
        rintro rfl
        rw [← hx.out, ← hx'.out] at ht
        simp at ht
      · have ht : ((x : Int) != (x' : Int)) = false := by assumption
        go_roundw
        case rel => exact ⟨k + 1, _, by go_num, by omega, fun j hj => by
            by_cases e : j = k
            · rw [e, hx.out, hx'.out]; have := bne_eq_false_iff_eq.1 ht; omega
            · exact hs j (by omega), rfl⟩
        case measure => simp [intOf]; omega
    · go_wp2
      go_ret
      exact ⟨ret_bool (decide_eq_true (List.ext_getElem H.out (fun i h1 h2 => by have := hs i (by omega); simpa [h1, h2] using this))).symm, (by repeat (first|exact bR _ _|assumption|refine bN ?_ _|refine bD ?_|refine bA ?_ (by first|omega|simp;omega|simp) _|refine bS ?_ (by first|omega|simp;omega|simp) _|refine bT ?_ (by assumption) (by first|omega|simp;omega|simp)))⟩
end Go.Proofs.YtogfbdeplogcfaaGreatDoor
namespace Go.Proofs.YtogfbdeplogcfaaGreatDoor
open Go.RowKit

theorem block3 (w : World) (o o' o'' : Obj) : (((w.alloc o).alloc o').alloc o'').heap[w.heap.size + 2]? = some o'' := by
  have h := block2 (w.alloc o) o' o''
  rwa [World.size_alloc] at h
theorem own_empty (w w' : World) (o o' : Obj) (h : w'.heap = (((w.alloc o).alloc o').alloc (.cells #[] 32)).heap) : w'.ownsRow (w.heap.size + 2) 32 1 (.slice (some ⟨w.heap.size + 1 + 1, 0, none⟩) 0 0) 0 [] :=
  ⟨rfl, .inr ⟨w.heap.size + 1 + 1, 0, #[], rfl, Nat.le_refl _, by rw [h]; exact block3 _ _ _ _, Nat.le_refl _, Nat.zero_le _, rfl, rfl⟩⟩
theorem Own.of_owns {w : World} {B g cap : Nat} {ws : List Nat} (h : w.ownsRow B 32 1 (.slice (some ⟨g, 0, none⟩) ws.length cap) ws.length (vals ws)) (hw : Words ws) : Own w B (some ⟨g, 0, none⟩) ws :=
  ⟨hw, fun hl => ⟨g, rfl, (h.lt g rfl).1, (h.lt g rfl).2, fun i hi => ⟨by rw [h.cellAt i (by omega), vals_at ws i hi], h.frozenAt i⟩⟩⟩
end Go.Proofs.YtogfbdeplogcfaaGreatDoor
namespace Go.Proofs.YtogfbdeplogcfaaGreatDoor
open Go.RowKit

theorem res_one {fn : Func} {p : Tmp} (h : fn.results = #[.cell p 26]) {tmps : Array Value} {w : World} {g : Nat} {v0 v1 : Value} (hp : tmps.getD p undef = .pointer (some ⟨g, 0, none⟩))
    (h0 : w.cell? ⟨g, 0, none⟩ = some v0) (h1 : w.cell? ⟨g, 1, none⟩ = some v1) : (results fn tmps).run Tryz.prog w = .ok (.agg #[v0, v1]) w := by
  have hp2 : tmps[p]?.getD undef = .pointer (some ⟨g, 0, none⟩) := by rw [← hp]; simp
  simp only [results, h]
  simp [go_sem, Result.andThen, h0, h1, asAddr, hp2]

theorem copy_nil (n : Int) (A : Option Addr) (cap : Nat) (w : World) :
    Calls Tryz.prog 114 #[.agg #[.int .i64 n, .slice A 0 cap]] w fun e w' => Copied w n [] e w' := by
  cases A
  all_goals
    go_enter Tryz.func114, Tryz.ntmps114
    go_wp2
    go_region
    all_goals
      go_wp2
      exact bodyPost_ret (res_one rfl rfl (g := w.heap.size + 1) (by simp [go_sem] <;> rfl) (by simp [go_sem] <;> rfl)) rfl ⟨_, 0, rfl, ⟨fun x hx => by simp at hx, fun h => by simp at h⟩, (by repeat (first|exact bR _ _|assumption|refine bN ?_ _|refine bD ?_|refine bA ?_ (by first|omega|simp;omega|simp) _|refine bS ?_ (by first|omega|simp;omega|simp) _|refine bT ?_ (by assumption) (by first|omega|simp;omega|simp)))⟩

theorem copy_some (n : Int) (b off cap : Nat) (ws : List Nat) (w : World) (hr : Row w w.heap.size (some ⟨b, off, none⟩) ws) (h0 : 0 < ws.length) (hm : ws.length ≤ 17592186044416) :
    Calls Tryz.prog 114 #[.agg #[.int .i64 n, .slice (some ⟨b, off, none⟩) ws.length cap]] w fun e w' => Copied w n ws e w' := by
  obtain ⟨i0, hi, hz0, hz1, hz2⟩ := info_parts info_u64
  go_enter Tryz.func114, Tryz.ntmps114
  go_wp2
  go_region_law ((refine step_append_lies _ rfl (.tmp 5) (.tmp 7) 22 rfl (w.heap.size + 2) 32 i0 _ 1 8 Tryz.underlying22 hi hz0 hz1 hz2 rfl (by omega) (.slice (some ⟨w.heap.size + 1 + 1, 0, none⟩) 0 0) 0 [] (by simp [Act.eval, Act.put]) (own_empty w _ _ _ rfl) ⟨b, off, none⟩ ws.length cap (vals ws) (by simp [Act.eval, Act.put]) (by simp [vals]) (hr.src2 (by repeat (first|exact bR _ _|assumption|refine bN ?_ _|refine bD ?_|refine bA ?_ (by first|omega|simp;omega|simp) _|refine bS ?_ (by first|omega|simp;omega|simp) _|refine bT ?_ (by assumption) (by first|omega|simp;omega|simp)))) (vals_one ws) h0 (by unfold maxLen; omega) (by omega) (by simp) _ rfl ?_; intro g cap2 w2 hown2 hg2 hat2 hlt2; simp only [Nat.zero_add, List.nil_append] at hown2; have hb_w2 : Below (w.heap.size + 2) _ w2 := (Below.refl _ _).grown hg2 (by first|omega|simp;omega|simp) (fun k hk => (by simp [Value.ownBlock] at hk; omega)); obtain ⟨hc_w2, hf_w2⟩ := bcell hb_w2; have hz_w2_w_0 : w.heap.size < w2.heap.size := (by have hzz := hb_w2.size; (try simp only [zA, zS, zD, zN] at hzz); omega); have hz_w2_w_1 : w.heap.size + 1 < w2.heap.size := (by have hzz := hb_w2.size; (try simp only [zA, zS, zD, zN] at hzz); omega)))
  all_goals
    go_wp2
    have k0 : w2.cell? ⟨w.heap.size + 1, 0, none⟩ = _ := (hc_w2 _ _ (by first|omega|simp;omega|simp)).trans (by simp [go_sem]; rfl)
    have k1 : w2.cell? ⟨w.heap.size + 1, 1, none⟩ = _ := (hc_w2 _ _ (by first|omega|simp;omega|simp)).trans (by simp [go_sem]; rfl)
    have ho := Own.of_owns hown2 hr.words
    exact bodyPost_ret (res_one rfl rfl (set_two _ _ k0 k1).1 (set_two _ _ k0 k1).2) rfl ⟨_, cap2, rfl, ((ho.far (.inl (by first|omega|simp;omega|simp)) _).far (.inl (by first|omega|simp;omega|simp)) _).mono (by first|omega|simp;omega|simp), (by repeat (first|exact bR _ _|assumption|refine bN ?_ _|refine bD ?_|refine bA ?_ (by first|omega|simp;omega|simp) _|refine bS ?_ (by first|omega|simp;omega|simp) _|refine bT ?_ (by assumption) (by first|omega|simp;omega|simp)))⟩

theorem copy_any (n : Int) {A : Option Addr} (cap : Nat) {ws : List Nat} {w : World} (hr : Row w w.heap.size A ws) (hm : ws.length ≤ 17592186044416) :
    Calls Tryz.prog 114 #[.agg #[.int .i64 n, .slice A ws.length cap]] w fun e w' => Copied w n ws e w' := by
  by_cases h0 : 0 < ws.length
  · obtain ⟨b, off, rfl, _, _⟩ := hr.at_ h0
    exact copy_some n b off cap ws w hr h0 hm
  · obtain rfl : ws = [] := List.eq_nil_of_length_eq_zero (by omega)
    exact copy_nil n A cap w

end Go.Proofs.YtogfbdeplogcfaaGreatDoor
namespace Go.Proofs.YtogfbdeplogcfaaGreatDoor
open Go.RowKit

theorem same_ok (n : Int) (ws : List Nat) (hm : ws.length ≤ maxLen) (w : World) (A A' : Option Addr) (cap cap' : Nat) (hr : Row w w.heap.size A ws) (hr' : Row w w.heap.size A' ws) :
    Calls Tryz.prog 138 #[.agg #[.int .i64 n, .slice A ws.length cap], .agg #[.int .i64 n, .slice A' ws.length cap']] w fun e w' => e = .returned (.bool true) ∧ Below w.heap.size w w' :=
  (same_loop n A A' cap cap' ws ws w hr hr' rfl hm).mono fun _ _ ⟨h1, h2⟩ => ⟨by rw [h1, decide_eq_true rfl], h2⟩
end Go.Proofs.YtogfbdeplogcfaaGreatDoor
namespace Go.Proofs.YtogfbdeplogcfaaGreatDoor
open Go.RowKit

theorem nth_mem (l : List Sd) (i : Nat) (h : i < l.length) : nth l i ∈ l := by
  unfold nth
  rw [List.getD_eq_getElem?_getD, List.getElem?_eq_getElem h]
  exact List.getElem_mem h
section
variable {w : World} {A : Option Addr} {l : List Sd} (cap : Nat)
end
end Go.Proofs.YtogfbdeplogcfaaGreatDoor
namespace Go.Proofs.YtogfbdeplogcfaaGreatDoor
open Go.RowKit

section
variable {w : World} {A M C N : Option Addr} (ca cm cc cn : Nat)
theorem xsameone_self (d : Sd) (hA : Row w w.heap.size A d.aw) (hM : Row w w.heap.size M d.mw) (hC : Row w w.heap.size C d.aw) (hN : Row w w.heap.size N d.mw) (la : d.aw.length ≤ 17592186044416) (lm : d.mw.length ≤ 17592186044416) :
    Calls Tryz.prog 139 #[spv d A ca M cm, spv d C cc N cn] w fun e w' => e = .returned (.bool true) ∧ Below w.heap.size w w' := by
  have HA := Lib.hid fun (w : World) h1 h2 => same_ok d.an d.aw (by unfold maxLen; omega) w A C ca cc h1 h2
  have HM := Lib.hid fun (w : World) h1 h2 => same_ok d.mn d.mw (by unfold maxLen; omega) w M N cm cn h1 h2
  obtain ⟨f, p, z, an, aw, mn, mw, s⟩ := d
  unfold spv
  simp only at *
  have n1 : (f == f) = true := by simp
  have n2 : (p == p) = true := by simp
  have n3 : (z == z) = true := by simp
  have n4 : (s == s) = true := by simp
  go_enter Tryz.func139, Tryz.ntmps139
  go_wp2_with fail
  go_at_call 138
  refine (HA.out _ (hA.later (by repeat (first|exact bR _ _|assumption|refine bN ?_ _|refine bD ?_|refine bA ?_ (by first|omega|simp;omega|simp) _|refine bS ?_ (by first|omega|simp;omega|simp) _|refine bT ?_ (by assumption) (by first|omega|simp;omega|simp)))) (hC.later (by repeat (first|exact bR _ _|assumption|refine bN ?_ _|refine bD ?_|refine bA ?_ (by first|omega|simp;omega|simp) _|refine bS ?_ (by first|omega|simp;omega|simp) _|refine bT ?_ (by assumption) (by first|omega|simp;omega|simp))))).mono ?_
  rintro e w2 ⟨rfl, hb_w2⟩
  obtain ⟨hc_w2, hf_w2⟩ := bcell hb_w2
  have hs2 := hb_w2.size
  (try simp only [zA] at hs2)
  have b2 : Below w.heap.size w w2 := (by repeat (first|exact bR _ _|assumption|refine bN ?_ _|refine bD ?_|refine bA ?_ (by first|omega|simp;omega|simp) _|refine bS ?_ (by first|omega|simp;omega|simp) _|refine bT ?_ (by assumption) (by first|omega|simp;omega|simp)))
  have x0 : w2.cell? ⟨w.heap.size, 0, none⟩ = some (.int .i64 f) := (hc_w2 _ _ (by first|omega|simp;omega|simp)).trans (by simp [go_sem])
  have x1 : w2.cell? ⟨w.heap.size, 1, none⟩ = some (.int .i64 p) := (hc_w2 _ _ (by first|omega|simp;omega|simp)).trans (by simp [go_sem])
  have x2 : w2.cell? ⟨w.heap.size, 2, none⟩ = some (.int .i64 z) := (hc_w2 _ _ (by first|omega|simp;omega|simp)).trans (by simp [go_sem])
  have x3 : w2.cell? ⟨w.heap.size, 3, none⟩ = some (.int .i64 an) := (hc_w2 _ _ (by first|omega|simp;omega|simp)).trans (by simp [go_sem])
  have x4 : w2.cell? ⟨w.heap.size, 4, none⟩ = some (.slice A aw.length ca) := (hc_w2 _ _ (by first|omega|simp;omega|simp)).trans (by simp [go_sem])
  have x5 : w2.cell? ⟨w.heap.size, 5, none⟩ = some (.int .i64 mn) := (hc_w2 _ _ (by first|omega|simp;omega|simp)).trans (by simp [go_sem])
  have x6 : w2.cell? ⟨w.heap.size, 6, none⟩ = some (.slice M mw.length cm) := (hc_w2 _ _ (by first|omega|simp;omega|simp)).trans (by simp [go_sem])
  have x7 : w2.cell? ⟨w.heap.size, 7, none⟩ = some (.bool s) := (hc_w2 _ _ (by first|omega|simp;omega|simp)).trans (by simp [go_sem])
  have y0 : w2.cell? ⟨w.heap.size + 1, 0, none⟩ = some (.int .i64 f) := (hc_w2 _ _ (by first|omega|simp;omega|simp)).trans (by simp [go_sem])
  have y1 : w2.cell? ⟨w.heap.size + 1, 1, none⟩ = some (.int .i64 p) := (hc_w2 _ _ (by first|omega|simp;omega|simp)).trans (by simp [go_sem])
  have y2 : w2.cell? ⟨w.heap.size + 1, 2, none⟩ = some (.int .i64 z) := (hc_w2 _ _ (by first|omega|simp;omega|simp)).trans (by simp [go_sem])
  have y3 : w2.cell? ⟨w.heap.size + 1, 3, none⟩ = some (.int .i64 an) := (hc_w2 _ _ (by first|omega|simp;omega|simp)).trans (by simp [go_sem])
  have y4 : w2.cell? ⟨w.heap.size + 1, 4, none⟩ = some (.slice C aw.length cc) := (hc_w2 _ _ (by first|omega|simp;omega|simp)).trans (by simp [go_sem])
  have y5 : w2.cell? ⟨w.heap.size + 1, 5, none⟩ = some (.int .i64 mn) := (hc_w2 _ _ (by first|omega|simp;omega|simp)).trans (by simp [go_sem])
  have y6 : w2.cell? ⟨w.heap.size + 1, 6, none⟩ = some (.slice N mw.length cn) := (hc_w2 _ _ (by first|omega|simp;omega|simp)).trans (by simp [go_sem])
  have y7 : w2.cell? ⟨w.heap.size + 1, 7, none⟩ = some (.bool s) := (hc_w2 _ _ (by first|omega|simp;omega|simp)).trans (by simp [go_sem])
  clear hc_w2 hf_w2
  go_wp2_with fail
  go_at_call 138
  refine (HM.out _ (hM.later b2) (hN.later b2)).mono ?_
  rintro e w3 ⟨rfl, hb_w3⟩
  have hs3 := hb_w3.size
  have b3 : Below w.heap.size w w3 := b2.trans (hb_w3.mono (by omega))
  have X7 : w3.cell? ⟨w.heap.size, 7, none⟩ = some (.bool s) := (hb_w3.cell (p := ⟨w.heap.size, 7, none⟩) (by show w.heap.size < _; omega)).trans x7
  have Y7 : w3.cell? ⟨w.heap.size + 1, 7, none⟩ = some (.bool s) := (hb_w3.cell (p := ⟨w.heap.size + 1, 7, none⟩) (by show w.heap.size + 1 < _; omega)).trans y7
  go_wp2
  go_ret
  exact ⟨rfl, b3⟩
end
section
variable {w : World} {A C : Option Addr} {l : List Sd} (cap cc : Nat)
set_option maxHeartbeats 8000000 in
theorem xsameL_self (hr : SRow w w.heap.size A l) (hq : SRow w w.heap.size C l) (hl : l.length ≤ 17592186044416) (hw : WordsLe l) :
    Calls Tryz.prog 73 #[.slice A l.length cap, .slice C l.length cc] w fun e w' => e = .returned (.bool true) ∧ Below w.heap.size w w' := by
  have HW := Lib.hid hw
  clear hw
  go_enter Tryz.func73, Tryz.ntmps73
  go_wp2_with fail
  go_loopw [13] (fun ii wr => ∃ k : Nat, ii = .int .i64 (k : Nat) ∧ k ≤ l.length ∧ w.heap.size ≤ wr.heap.size ∧ Below w.heap.size w wr) (fun ii _ => l.length - (intOf ii).toNat)
  case atStart => exact ⟨0, rfl, Nat.zero_le _, (by first|omega|simp;omega|simp), (by repeat (first|exact bR _ _|assumption|refine bN ?_ _|refine bD ?_|refine bA ?_ (by first|omega|simp;omega|simp) _|refine bS ?_ (by first|omega|simp;omega|simp) _|refine bT ?_ (by assumption) (by first|omega|simp;omega|simp)))⟩
  case round =>
    obtain ⟨k, rfl, hk, hsz, hb_wr⟩ := hrel
    have hsr := hb_wr.size
    by_cases hlt : k < l.length
    · obtain ⟨b, off, hAe, hbb, hc⟩ := (hr.later hb_wr).at_ (by omega)
      obtain ⟨b', off', hCe, hbb', hc'⟩ := (hq.later hb_wr).at_ (by omega)
      obtain ⟨A, ca, M, cm, c8, ra, rm⟩ := hc k hlt
      obtain ⟨C, cc', N, cn, c8', rc, rn⟩ := hc' k hlt
      obtain ⟨wa, wm⟩ := HW.out _ (nth_mem l k hlt)
      generalize nth l k = d at *
      have HO := Lib.hid fun (w : World) h1 h2 h3 h4 => xsameone_self (w := w) (A := A) (M := M) (C := C) (N := N) ca cm cc' cn d h1 h2 h3 h4 wa wm
      obtain ⟨x0, x1, x2, x3, x4, x5, x6, x7⟩ := c8
      obtain ⟨y0, y1, y2, y3, y4, y5, y6, y7⟩ := c8'
      subst hAe hCe
      clear hc hc' wa wm
      obtain ⟨f, p, z, an, aw, mn, mw, s⟩ := d
      unfold spv at HO
      simp only at *
      have i1 : (k : Int) < (l.length : Int) := by omega
      have i2 : (0 : Int) ≤ (k : Int) := by omega
      go_wp2_with fail
      go_region_held3 (fun X : World => X.cell? ⟨b, off + k * 8, none⟩ = some (.int .i64 f) ∧ X.cell? ⟨b, off + k * 8 + 1, none⟩ = some (.int .i64 p) ∧ X.cell? ⟨b, off + k * 8 + 2, none⟩ = some (.int .i64 z) ∧ X.cell? ⟨b, off + k * 8 + 3, none⟩ = some (.int .i64 an) ∧ X.cell? ⟨b, off + k * 8 + 4, none⟩ = some (.slice A aw.length ca) ∧ X.cell? ⟨b, off + k * 8 + 5, none⟩ = some (.int .i64 mn) ∧ X.cell? ⟨b, off + k * 8 + 6, none⟩ = some (.slice M mw.length cm) ∧ X.cell? ⟨b, off + k * 8 + 7, none⟩ = some (.bool s) ∧ X.cell? ⟨b', off' + k * 8, none⟩ = some (.int .i64 f) ∧ X.cell? ⟨b', off' + k * 8 + 1, none⟩ = some (.int .i64 p) ∧ X.cell? ⟨b', off' + k * 8 + 2, none⟩ = some (.int .i64 z) ∧ X.cell? ⟨b', off' + k * 8 + 3, none⟩ = some (.int .i64 an) ∧ X.cell? ⟨b', off' + k * 8 + 4, none⟩ = some (.slice C aw.length cc') ∧ X.cell? ⟨b', off' + k * 8 + 5, none⟩ = some (.int .i64 mn) ∧ X.cell? ⟨b', off' + k * 8 + 6, none⟩ = some (.slice N mw.length cn) ∧ X.cell? ⟨b', off' + k * 8 + 7, none⟩ = some (.bool s))
        (refine ⟨?_, ?_, ?_, ?_, ?_, ?_, ?_, ?_, ?_, ?_, ?_, ?_, ?_, ?_, ?_, ?_⟩ <;> first | assumption | exact (World.cell?_alloc_lt _ _ ⟨_, _, _⟩ (by first|omega|simp;omega|simp)).trans (by assumption) | (simp [go_sem]; done))
        ((go_at_call 139; refine (HO.out _ (ra.later (by repeat (first|exact bR _ _|assumption|refine bN ?_ _|refine bD ?_|refine bA ?_ (by first|omega|simp;omega|simp) _|refine bS ?_ (by first|omega|simp;omega|simp) _|refine bT ?_ (by assumption) (by first|omega|simp;omega|simp)))) (rm.later (by repeat (first|exact bR _ _|assumption|refine bN ?_ _|refine bD ?_|refine bA ?_ (by first|omega|simp;omega|simp) _|refine bS ?_ (by first|omega|simp;omega|simp) _|refine bT ?_ (by assumption) (by first|omega|simp;omega|simp)))) (rc.later (by repeat (first|exact bR _ _|assumption|refine bN ?_ _|refine bD ?_|refine bA ?_ (by first|omega|simp;omega|simp) _|refine bS ?_ (by first|omega|simp;omega|simp) _|refine bT ?_ (by assumption) (by first|omega|simp;omega|simp)))) (rn.later (by repeat (first|exact bR _ _|assumption|refine bN ?_ _|refine bD ?_|refine bA ?_ (by first|omega|simp;omega|simp) _|refine bS ?_ (by first|omega|simp;omega|simp) _|refine bT ?_ (by assumption) (by first|omega|simp;omega|simp))))).mono ?_; rintro e w5 ⟨rfl, hb_w5⟩; have hs5 := hb_w5.size; (try simp only [zD, zN, zA] at hs5); have m0 : w5.cell? ⟨b, off + k * 8, none⟩ = some (.int .i64 f) := (hb_w5.cell (p := ⟨b, off + k * 8, none⟩) (by first|omega|simp;omega|simp)).trans (by first | assumption | (simp [go_sem]; done)); have m1 : w5.cell? ⟨b, off + k * 8 + 1, none⟩ = some (.int .i64 p) := (hb_w5.cell (p := ⟨b, off + k * 8 + 1, none⟩) (by first|omega|simp;omega|simp)).trans (by first | assumption | (simp [go_sem]; done)); have m2 : w5.cell? ⟨b, off + k * 8 + 2, none⟩ = some (.int .i64 z) := (hb_w5.cell (p := ⟨b, off + k * 8 + 2, none⟩) (by first|omega|simp;omega|simp)).trans (by first | assumption | (simp [go_sem]; done)); have m3 : w5.cell? ⟨b, off + k * 8 + 3, none⟩ = some (.int .i64 an) := (hb_w5.cell (p := ⟨b, off + k * 8 + 3, none⟩) (by first|omega|simp;omega|simp)).trans (by first | assumption | (simp [go_sem]; done)); have m4 : w5.cell? ⟨b, off + k * 8 + 4, none⟩ = some (.slice A aw.length ca) := (hb_w5.cell (p := ⟨b, off + k * 8 + 4, none⟩) (by first|omega|simp;omega|simp)).trans (by first | assumption | (simp [go_sem]; done)); have m5 : w5.cell? ⟨b, off + k * 8 + 5, none⟩ = some (.int .i64 mn) := (hb_w5.cell (p := ⟨b, off + k * 8 + 5, none⟩) (by first|omega|simp;omega|simp)).trans (by first | assumption | (simp [go_sem]; done)); have m6 : w5.cell? ⟨b, off + k * 8 + 6, none⟩ = some (.slice M mw.length cm) := (hb_w5.cell (p := ⟨b, off + k * 8 + 6, none⟩) (by first|omega|simp;omega|simp)).trans (by first | assumption | (simp [go_sem]; done)); have m7 : w5.cell? ⟨b, off + k * 8 + 7, none⟩ = some (.bool s) := (hb_w5.cell (p := ⟨b, off + k * 8 + 7, none⟩) (by first|omega|simp;omega|simp)).trans (by first | assumption | (simp [go_sem]; done)); have m8 : w5.cell? ⟨b', off' + k * 8, none⟩ = some (.int .i64 f) := (hb_w5.cell (p := ⟨b', off' + k * 8, none⟩) (by first|omega|simp;omega|simp)).trans (by first | assumption | (simp [go_sem]; done)); have m9 : w5.cell? ⟨b', off' + k * 8 + 1, none⟩ = some (.int .i64 p) := (hb_w5.cell (p := ⟨b', off' + k * 8 + 1, none⟩) (by first|omega|simp;omega|simp)).trans (by first | assumption | (simp [go_sem]; done)); have m10 : w5.cell? ⟨b', off' + k * 8 + 2, none⟩ = some (.int .i64 z) := (hb_w5.cell (p := ⟨b', off' + k * 8 + 2, none⟩) (by first|omega|simp;omega|simp)).trans (by first | assumption | (simp [go_sem]; done)); have m11 : w5.cell? ⟨b', off' + k * 8 + 3, none⟩ = some (.int .i64 an) := (hb_w5.cell (p := ⟨b', off' + k * 8 + 3, none⟩) (by first|omega|simp;omega|simp)).trans (by first | assumption | (simp [go_sem]; done)); have m12 : w5.cell? ⟨b', off' + k * 8 + 4, none⟩ = some (.slice C aw.length cc') := (hb_w5.cell (p := ⟨b', off' + k * 8 + 4, none⟩) (by first|omega|simp;omega|simp)).trans (by first | assumption | (simp [go_sem]; done)); have m13 : w5.cell? ⟨b', off' + k * 8 + 5, none⟩ = some (.int .i64 mn) := (hb_w5.cell (p := ⟨b', off' + k * 8 + 5, none⟩) (by first|omega|simp;omega|simp)).trans (by first | assumption | (simp [go_sem]; done)); have m14 : w5.cell? ⟨b', off' + k * 8 + 6, none⟩ = some (.slice N mw.length cn) := (hb_w5.cell (p := ⟨b', off' + k * 8 + 6, none⟩) (by first|omega|simp;omega|simp)).trans (by first | assumption | (simp [go_sem]; done)); have m15 : w5.cell? ⟨b', off' + k * 8 + 7, none⟩ = some (.bool s) := (hb_w5.cell (p := ⟨b', off' + k * 8 + 7, none⟩) (by first|omega|simp;omega|simp)).trans (by first | assumption | (simp [go_sem]; done))))
      all_goals
        go_wp2
        go_roundw
        case rel => exact ⟨k + 1, by go_num, by omega, (by first|omega|simp;omega|simp), (by repeat (first|exact bR _ _|assumption|refine bN ?_ _|refine bD ?_|refine bA ?_ (by first|omega|simp;omega|simp) _|refine bS ?_ (by first|omega|simp;omega|simp) _|refine bT ?_ (by assumption) (by first|omega|simp;omega|simp)))⟩
        case measure => simp [intOf]; omega
    · go_wp2
      go_ret
      exact ⟨rfl, hb_wr⟩
end
end Go.Proofs.YtogfbdeplogcfaaGreatDoor
namespace Go.Proofs.YtogfbdeplogcfaaGreatDoor
open Go.RowKit
set_option maxRecDepth 100000

theorem NewE.ok {h : Hp} {n : Int} {m : Nat} {bl : Bool} {h' : Hp} {a : Nat} {y : Int} (hE : NewE h n m bl h' a y) (hk : OkH h) : OkH h' := by
  by_cases h0 : y = 0
  · subst h0
    exact hE.made.2.1
  · rcases hE with ⟨h1, _⟩ | ⟨_, _, rfl, _⟩ | ⟨_, hsh, ⟨i, k, hR⟩, h2, _⟩ | ⟨_, _, h2, _⟩
    · exact absurd hk h1
    · exact hk
    · have hs : 0 ≤ n ∧ n ≤ 48 := by unfold Sh at hsh; omega
      rcases hR.does hk hs.1 hs.2 with ⟨_, _, _, _, rfl⟩ | ⟨h3, _⟩
      · exact hk
      · exact absurd h3 h2
    · exact absurd h2 h0
theorem NewE.refused {h : Hp} {n : Int} {m : Nat} {bl : Bool} {h' : Hp} {a : Nat} {y : Int} (hE : NewE h n m bl h' a y) (hk : OkH h) (hy : y ≠ 0) : h' = h ∧ a = 0 := by
  rcases hE with ⟨h1, _⟩ | ⟨_, _, rfl, e, _⟩ | ⟨_, hsh, ⟨i, k, hR⟩, h2, e⟩ | ⟨_, _, h2, _⟩
  · exact absurd hk h1
  · exact ⟨rfl, e⟩
  · have hs : 0 ≤ n ∧ n ≤ 48 := by unfold Sh at hsh; omega
    rcases hR.does hk hs.1 hs.2 with ⟨_, _, _, _, rfl⟩ | ⟨h3, _⟩
    · exact ⟨rfl, e⟩
    · exact absurd h3 h2
  · exact absurd h2 hy
theorem StoE.refused {h : Hp} {a : Nat} {f : Int} {x : Nat} {r : Bool} {h' : Hp} {y : Int} (hE : StoE h a f x r h' y) (hk : OkH h) (hy : y ≠ 0) : h' = h := by
  rcases hE with ⟨h1, _⟩ | ⟨_, _, _, e⟩ | ⟨_, _, h0, _⟩
  · exact absurd hk h1
  · exact e
  · exact absurd h0 hy
theorem MarE.refused {h : Hp} {a : Nat} {h' : Hp} {b : Bool} {y : Int} (hE : MarE h a h' b y) (hk : OkH h) (hy : y ≠ 0) : h' = h ∧ b = false := by
  rcases hE with ⟨h1, _⟩ | ⟨_, _, e, e2, _⟩ | ⟨_, _, _, _, h0⟩
  · exact absurd hk h1
  · exact ⟨e, e2⟩
  · exact absurd h0 hy
end Go.Proofs.YtogfbdeplogcfaaGreatDoor
namespace Go.Proofs.YtogfbdeplogcfaaGreatDoor
open Go.RowKit

section
variable {n : Int} {A : Option Addr} {ws : List Nat} {w : World} (cap : Nat)
theorem rpcopy_any (hr : Row w w.heap.size A ws) (hm : ws.length ≤ 17592186044416) :
    Calls Tryz.prog 50 #[.agg #[.int .i64 n, .slice A ws.length cap]] w fun e w' => Copied w n ws e w' := by
  go_enter Tryz.func50, Tryz.ntmps50
  go_wp2_with (go_at_call 114; refine (copy_any _ _ (hr.later (by repeat (first|exact bR _ _|assumption|refine bN ?_ _|refine bD ?_|refine bA ?_ (by first|omega|simp;omega|simp) _|refine bS ?_ (by first|omega|simp;omega|simp) _|refine bT ?_ (by assumption) (by first|omega|simp;omega|simp)))) hm).mono ?_; rintro e w1 ⟨A1, cap1, rfl, ho1, hb_w1⟩; obtain ⟨hc_w1, hf_w1⟩ := bcell hb_w1; have hz_w1_w_0 : w.heap.size < w1.heap.size := (by have hzz := hb_w1.size; (try simp only [zA, zS, zD, zN] at hzz); omega); have hz_w1_w_1 : w.heap.size + 1 < w1.heap.size := (by have hzz := hb_w1.size; (try simp only [zA, zS, zD, zN] at hzz); omega))
  have k0 : w1.cell? ⟨w.heap.size + 1, 0, none⟩ = _ := (hc_w1 _ _ (by first|omega|simp;omega|simp)).trans (by simp [go_sem]; rfl)
  have k1 : w1.cell? ⟨w.heap.size + 1, 1, none⟩ = _ := (hc_w1 _ _ (by first|omega|simp;omega|simp)).trans (by simp [go_sem]; rfl)
  exact bodyPost_ret (res_pages1 rfl rfl (set_two _ _ k0 k1).1 (set_two _ _ k0 k1).2) rfl ⟨A1, cap1, rfl, (ho1.two (g := w.heap.size + 1) (by first|omega|simp;omega|simp)).mono (by first|omega|simp;omega|simp), (by repeat (first|exact bR _ _|assumption|refine bN ?_ _|refine bD ?_|refine bA ?_ (by first|omega|simp;omega|simp) _|refine bS ?_ (by first|omega|simp;omega|simp) _|refine bT ?_ (by assumption) (by first|omega|simp;omega|simp)))⟩
theorem rpsame_ok (hm : ws.length ≤ maxLen) (A' : Option Addr) (cap' : Nat) (hr : Row w w.heap.size A ws) (hr' : Row w w.heap.size A' ws) :
    Calls Tryz.prog 72 #[.agg #[.int .i64 n, .slice A ws.length cap], .agg #[.int .i64 n, .slice A' ws.length cap']] w fun e w' => e = .returned (.bool true) ∧ Below w.heap.size w w' := by
  go_enter Tryz.func72, Tryz.ntmps72
  go_wp2_with fail
  go_at_call 138
  refine (same_ok n ws hm _ _ _ _ _ (hr.later (by repeat (first|exact bR _ _|assumption|refine bN ?_ _|refine bD ?_|refine bA ?_ (by first|omega|simp;omega|simp) _|refine bS ?_ (by first|omega|simp;omega|simp) _|refine bT ?_ (by assumption) (by first|omega|simp;omega|simp)))) (hr'.later (by repeat (first|exact bR _ _|assumption|refine bN ?_ _|refine bD ?_|refine bA ?_ (by first|omega|simp;omega|simp) _|refine bS ?_ (by first|omega|simp;omega|simp) _|refine bT ?_ (by assumption) (by first|omega|simp;omega|simp))))).mono ?_
  rintro e w1 ⟨rfl, hb_w1⟩
  obtain ⟨hc_w1, hf_w1⟩ := bcell hb_w1; have hz_w1_w_0 : w.heap.size < w1.heap.size := (by have hzz := hb_w1.size; (try simp only [zA, zS, zD, zN] at hzz); omega); have hz_w1_w_1 : w.heap.size + 1 < w1.heap.size := (by have hzz := hb_w1.size; (try simp only [zA, zS, zD, zN] at hzz); omega); have hs_w1 := hb_w1.size; (try simp only [zA, zS, zD, zN] at hs_w1)
  go_wp2
  go_ret
  exact ⟨rfl, (by repeat (first|exact bR _ _|assumption|refine bN ?_ _|refine bD ?_|refine bA ?_ (by first|omega|simp;omega|simp) _|refine bS ?_ (by first|omega|simp;omega|simp) _|refine bT ?_ (by assumption) (by first|omega|simp;omega|simp)))⟩
end
end Go.Proofs.YtogfbdeplogcfaaGreatDoor
namespace Go.Proofs.YtogfbdeplogcfaaGreatDoor
open Go.RowKit
set_option maxRecDepth 100000

section
variable {w : World} {v v' : Hv} {h : Hp}
set_option maxHeartbeats 1000000 in
theorem hsame_any (m : HM w w.heap.size v h) (m' : HM w w.heap.size v' h) (hs : Short h) :
    Calls Tryz.prog 20 #[hpV v h, hpV v' h] w fun e w' => e = .returned (.bool true) ∧ Below w.heap.size w w' := by
  have HA := Lib.hid fun (w : World) h1 h2 => asame_ok h.ws (by have := hs.ws; unfold maxLen; omega) w v.A v'.A v.ca v'.ca h1 h2
  have HU := Lib.hid fun (w : World) h1 h2 => rpsame_ok (n := h.n) (A := v.U) (ws := h.us) (w := w) v.cu (by have := hs.us; unfold maxLen; omega) v'.U v'.cu h1 h2
  have HV := Lib.hid fun (w : World) h1 h2 => xsameL_self (w := w) (A := v.V) (C := v'.V) (l := h.l) v.cv v'.cv h1 h2 (by have := hs.l; omega) hs.each
  have hx := HIn.new m 31
  have hx1 := hx.alloc (.cells #[.slice v'.A h.ws.length v'.ca, .int .i64 h.n, .slice v'.U h.us.length v'.cu, .slice v'.V h.l.length v'.cv] 31)
  have hm1 := m'.later ((Below.refl _ _).alloc (Nat.le_refl _) (.cells #[.slice v.A h.ws.length v.ca, .int .i64 h.n, .slice v.U h.us.length v.cu, .slice v.V h.l.length v.cv] 31))
  have hy1 := HIn.new hm1 31
  rw [World.size_alloc] at hy1
  clear hx hm1
  unfold hpV hpv
  go_enter Tryz.func20, Tryz.ntmps20
  go_wp2_with fail
  go_at_call 71
  refine (HA.out _ (by exact hx1.m.a) (by exact hy1.m.a)).mono ?_
  rintro e w1 ⟨rfl, hb_w1⟩
  have b1 : Below w.heap.size w w1 := (by repeat (first|exact bR _ _|assumption|refine bN ?_ _|refine bD ?_|refine bA ?_ (by first|omega|simp;omega|simp) _|refine bS ?_ (by first|omega|simp;omega|simp) _|refine bT ?_ (by assumption) (by first|omega|simp;omega|simp)))
  have hx2 := hx1.later hb_w1
  have hy2 := hy1.later hb_w1
  obtain ⟨c0, c1, c2, c3, f0, f1, f2, f3⟩ := id hx2.box
  obtain ⟨d0, d1, d2, d3, g0, g1, g2, g3⟩ := id hy2.box
  go_wp2_with fail
  go_at_call 72
  refine (HU.out _ (by exact hx2.m.u) (by exact hy2.m.u)).mono ?_
  rintro e w2 ⟨rfl, hb_w2⟩
  have b2 : Below w.heap.size w w2 := b1.trans (hb_w2.mono b1.size)
  have hx3 := hx2.later hb_w2
  have hy3 := hy2.later hb_w2
  clear c0 c1 c2 c3 f0 f1 f2 f3 d0 d1 d2 d3 g0 g1 g2 g3
  obtain ⟨c0, c1, c2, c3, f0, f1, f2, f3⟩ := id hx3.box
  obtain ⟨d0, d1, d2, d3, g0, g1, g2, g3⟩ := id hy3.box
  go_wp2_with fail
  go_at_call 73
  refine (HV.out _ (by exact hx3.m.v) (by exact hy3.m.v)).mono ?_
  rintro e w3 ⟨rfl, hb_w3⟩
  have b3 : Below w.heap.size w w3 := b2.trans (hb_w3.mono b2.size)
  go_wp2
  go_ret
  exact ⟨rfl, b3⟩
end
end Go.Proofs.YtogfbdeplogcfaaGreatDoor
namespace Go.Proofs.YtogfbdeplogcfaaGreatDoor
open Go.RowKit
set_option maxRecDepth 100000

set_option maxHeartbeats 8000000 in
theorem heapRefused_walk (v : Hv) (h : Hp) (n : Int) (m a : Nat) (f : Int) (x : Nat) (w : World) (hz : Sizes w) (hM : HM w w.heap.size v h) (hs : Short h) (hnil : v.V = none → v.cv = 0) (hm : m < W64) (ha : a < W64) (hx : x < W64) :
    Calls Tryz.prog 12 #[hpV v h, .agg #[.int .i64 n, .int .u64 (m : Nat)], .int .u64 (a : Nat), .int .i64 f, .int .u64 (x : Nat)] w fun e w' => e = .returned (.bool true) ∧ Below w.heap.size w w' := by
  have X0 := (HIn.new hM 31).alloc (.cells #[.int .i64 n, .int .u64 (m : Nat)] 34)
  have P0 := (Two.new1 w (.cells #[.slice v.A h.ws.length v.ca, .int .i64 h.n, .slice v.U h.us.length v.cu, .slice v.V h.l.length v.cv] 31) (.int .i64 n) (.int .u64 (m : Nat)) 34)
  by_cases hk : OkH h
  · obtain ⟨h1, a1, y1, E1⟩ := NewE.ex h n m false
    obtain ⟨h2, y2, E2⟩ := StoE.ex h a f x true
    obtain ⟨h3, b3, y3, E3⟩ := MarE.ex h a
    have r1 : y1 = 0 ∨ (h = h1 ∧ (y1 == (0 : Int)) = false) := by
      by_cases e : y1 = 0
      · exact .inl e
      · exact .inr ⟨(E1.refused hk e).1.symm, by simpa using e⟩
    have r2 : y2 = 0 ∨ (h = h2 ∧ (y2 == (0 : Int)) = false) := by
      by_cases e : y2 = 0
      · exact .inl e
      · exact .inr ⟨(E2.refused hk e).symm, by simpa using e⟩
    have r3 : y3 = 0 ∨ (h = h3 ∧ (y3 == (0 : Int)) = false) := by
      by_cases e : y3 = 0
      · exact .inl e
      · exact .inr ⟨(E3.refused hk e).1.symm, by simpa using e⟩
    have HC := Lib.hid fun (w : World) hz hM => zcheck_any (w := w) (v := v) (h := h) hz hM (by have := hs.l; omega) hs.ws 0 (.inl ⟨hk, rfl⟩)
    have HNEW := Lib.hid fun (w : World) hz hM => znewH_any (w := w) (v := v) (h := h) hz hM (by have := hs.l; omega) hs.ws hnil n m hm false h1 a1 y1 E1
    have HSTO := Lib.hid fun (w : World) hz hM => zstoreH_any (w := w) (v := v) (h := h) hz hM (by have := hs.l; omega) hs.ws hnil a ha f x hx true h2 y2 E2
    have HMAR := Lib.hid fun (w : World) hz hM => zmarkH_any (w := w) (v := v) (h := h) hz hM (by have := hs.l; omega) hs.ws hnil a ha h3 b3 y3 E3
    have HSAME := Lib.hid fun (w : World) (v v' : Hv) m m' => hsame_any (w := w) (v := v) (v' := v') (h := h) m m' hs
    have R1 := Lib.hid r1
    have R2 := Lib.hid r2
    have R3 := Lib.hid r3
    unfold FreshHa at HNEW
    unfold FreshH at HSTO
    unfold FreshHb at HMAR
    clear E1 E2 E3 hk r1 r2 r3 hs hM hnil
    unfold hpV hpv at HC HNEW HSTO HMAR HSAME ⊢
    go_enter Tryz.func12, Tryz.ntmps12
    go_wp2_with fail
    go_at_call 19
    refine (hlives_any _ (hz.later (by repeat (first|exact bR _ _|assumption|refine bN ?_ _|refine bD ?_|refine bA ?_ (by first|omega|simp;omega|simp) _|refine bS ?_ (by first|omega|simp;omega|simp) _|refine bT ?_ (by assumption) (by first|omega|simp;omega|simp))))).mono ?_
    rintro e w1 ⟨rfl, hb_w1⟩
    have b_w1 : Below w.heap.size w w1 := (by repeat (first|exact bR _ _|assumption|refine bN ?_ _|refine bD ?_|refine bA ?_ (by first|omega|simp;omega|simp) _|refine bS ?_ (by first|omega|simp;omega|simp) _|refine bT ?_ (by assumption) (by first|omega|simp;omega|simp)))
    replace X0 := X0.later hb_w1
    replace P0 := P0.later hb_w1
    obtain ⟨X0_c0, X0_c1, X0_c2, X0_c3, X0_f0, X0_f1, X0_f2, X0_f3⟩ := id X0.box
    go_wp2_with fail
    go_at_call 21
    refine (HC.out _ (hz.later (by exact b_w1)) X0.m).mono ?_
    rintro e w2 ⟨rfl, hb_w2⟩
    clear X0_c0 X0_c1 X0_c2 X0_c3 X0_f0 X0_f1 X0_f2 X0_f3
    have b_w2 : Below w.heap.size w w2 := b_w1.trans (hb_w2.mono b_w1.size)
    replace X0 := X0.later hb_w2
    replace P0 := P0.later hb_w2
    obtain ⟨X0_c0, X0_c1, X0_c2, X0_c3, X0_f0, X0_f1, X0_f2, X0_f3⟩ := id X0.box
    obtain ⟨P0_c0, P0_c1, P0_f0⟩ := id P0
    go_wp2_with fail
    go_at_call 15
    refine (HNEW.out _ (hz.later (by exact b_w2)) X0.m).mono ?_
    rintro e w3 ⟨v3, rfl, o3, hb_w3⟩
    clear X0_c0 X0_c1 X0_c2 X0_c3 X0_f0 X0_f1 X0_f2 X0_f3 P0_c0 P0_c1 P0_f0
    have b_w3 : Below w.heap.size w w3 := b_w2.trans (hb_w3.mono b_w2.size)
    replace X0 := X0.later hb_w3
    replace P0 := P0.later hb_w3
    have a_w3_0 : Below w3.heap.size w3 (w3.alloc (.cells #[.slice v3.A h1.ws.length v3.ca, .int .i64 h1.n, .slice v3.U h1.us.length v3.cu, .slice v3.V h1.l.length v3.cv] 31)) := Below.alloc (Below.refl _ _) (Nat.le_refl _) _
    replace X0 := X0.later a_w3_0
    replace P0 := P0.later a_w3_0
    have X3 := HIn.new o3.hm 31
    have b_w3_0 : Below w.heap.size w (w3.alloc (.cells #[.slice v3.A h1.ws.length v3.ca, .int .i64 h1.n, .slice v3.U h1.us.length v3.cu, .slice v3.V h1.l.length v3.cv] 31)) := b_w3.trans (a_w3_0.mono b_w3.size)
    obtain ⟨X0_c0, X0_c1, X0_c2, X0_c3, X0_f0, X0_f1, X0_f2, X0_f3⟩ := id X0.box
    go_wp2_with fail
    go_at_call 27
    refine (HSTO.out _ (hz.later (by exact b_w3_0)) X0.m).mono ?_
    rintro e w4 ⟨v4, rfl, o4, hb_w4⟩
    clear X0_c0 X0_c1 X0_c2 X0_c3 X0_f0 X0_f1 X0_f2 X0_f3
    have b_w4 : Below w.heap.size w w4 := b_w3_0.trans (hb_w4.mono b_w3_0.size)
    replace X0 := X0.later hb_w4
    replace P0 := P0.later hb_w4
    replace X3 := X3.later hb_w4
    have a_w4_0 : Below w4.heap.size w4 (w4.alloc (.cells #[.slice v4.A h2.ws.length v4.ca, .int .i64 h2.n, .slice v4.U h2.us.length v4.cu, .slice v4.V h2.l.length v4.cv] 31)) := Below.alloc (Below.refl _ _) (Nat.le_refl _) _
    replace X0 := X0.later a_w4_0
    replace P0 := P0.later a_w4_0
    replace X3 := X3.later a_w4_0
    have X4 := HIn.new o4.hm 31
    have b_w4_0 : Below w.heap.size w (w4.alloc (.cells #[.slice v4.A h2.ws.length v4.ca, .int .i64 h2.n, .slice v4.U h2.us.length v4.cu, .slice v4.V h2.l.length v4.cv] 31)) := b_w4.trans (a_w4_0.mono b_w4.size)
    obtain ⟨X0_c0, X0_c1, X0_c2, X0_c3, X0_f0, X0_f1, X0_f2, X0_f3⟩ := id X0.box
    go_wp2_with fail
    go_at_call 29
    refine (HMAR.out _ (hz.later (by exact b_w4_0)) X0.m).mono ?_
    rintro e w5 ⟨v5, rfl, o5, hb_w5⟩
    clear X0_c0 X0_c1 X0_c2 X0_c3 X0_f0 X0_f1 X0_f2 X0_f3
    have b_w5 : Below w.heap.size w w5 := b_w4_0.trans (hb_w5.mono b_w4_0.size)
    replace X0 := X0.later hb_w5
    replace P0 := P0.later hb_w5
    replace X3 := X3.later hb_w5
    replace X4 := X4.later hb_w5
    have a_w5_0 : Below w5.heap.size w5 (w5.alloc (.cells #[.slice v5.A h3.ws.length v5.ca, .int .i64 h3.n, .slice v5.U h3.us.length v5.cu, .slice v5.V h3.l.length v5.cv] 31)) := Below.alloc (Below.refl _ _) (Nat.le_refl _) _
    replace X0 := X0.later a_w5_0
    replace P0 := P0.later a_w5_0
    replace X3 := X3.later a_w5_0
    replace X4 := X4.later a_w5_0
    have X5 := HIn.new o5.hm 31
    have b_w5_0 : Below w.heap.size w (w5.alloc (.cells #[.slice v5.A h3.ws.length v5.ca, .int .i64 h3.n, .slice v5.U h3.us.length v5.cu, .slice v5.V h3.l.length v5.cv] 31)) := b_w5.trans (a_w5_0.mono b_w5.size)
    clear o3 o4 o5 HNEW HSTO HMAR HC
    rcases R1.out with rfl | ⟨rfl, d1⟩ <;> rcases R2.out with rfl | ⟨rfl, d2⟩ <;> rcases R3.out with rfl | ⟨rfl, d3⟩
    · obtain ⟨X0_c0, X0_c1, X0_c2, X0_c3, X0_f0, X0_f1, X0_f2, X0_f3⟩ := id X0.box
      obtain ⟨X3_c0, X3_c1, X3_c2, X3_c3, X3_f0, X3_f1, X3_f2, X3_f3⟩ := id X3.box
      obtain ⟨X4_c0, X4_c1, X4_c2, X4_c3, X4_f0, X4_f1, X4_f2, X4_f3⟩ := id X4.box
      obtain ⟨X5_c0, X5_c1, X5_c2, X5_c3, X5_f0, X5_f1, X5_f2, X5_f3⟩ := id X5.box
      go_wp2
      go_ret
      exact ⟨rfl, b_w5_0⟩
    · obtain ⟨X0_c0, X0_c1, X0_c2, X0_c3, X0_f0, X0_f1, X0_f2, X0_f3⟩ := id X0.box
      obtain ⟨X3_c0, X3_c1, X3_c2, X3_c3, X3_f0, X3_f1, X3_f2, X3_f3⟩ := id X3.box
      obtain ⟨X4_c0, X4_c1, X4_c2, X4_c3, X4_f0, X4_f1, X4_f2, X4_f3⟩ := id X4.box
      obtain ⟨X5_c0, X5_c1, X5_c2, X5_c3, X5_f0, X5_f1, X5_f2, X5_f3⟩ := id X5.box
      go_wp2_with fail
      go_at_call 20
      refine (HSAME.out _ _ _ (by exact X5.m) (by exact X0.m)).mono ?_
      rintro e w6 ⟨rfl, hb_w6⟩
      clear X0_c0 X0_c1 X0_c2 X0_c3 X0_f0 X0_f1 X0_f2 X0_f3 X3_c0 X3_c1 X3_c2 X3_c3 X3_f0 X3_f1 X3_f2 X3_f3 X4_c0 X4_c1 X4_c2 X4_c3 X4_f0 X4_f1 X4_f2 X4_f3 X5_c0 X5_c1 X5_c2 X5_c3 X5_f0 X5_f1 X5_f2 X5_f3
      have b_w6 : Below w.heap.size w w6 := b_w5_0.trans (hb_w6.mono b_w5_0.size)
      replace X0 := X0.later hb_w6
      replace P0 := P0.later hb_w6
      replace X3 := X3.later hb_w6
      replace X4 := X4.later hb_w6
      replace X5 := X5.later hb_w6
      obtain ⟨X0_c0, X0_c1, X0_c2, X0_c3, X0_f0, X0_f1, X0_f2, X0_f3⟩ := id X0.box
      obtain ⟨X3_c0, X3_c1, X3_c2, X3_c3, X3_f0, X3_f1, X3_f2, X3_f3⟩ := id X3.box
      obtain ⟨X4_c0, X4_c1, X4_c2, X4_c3, X4_f0, X4_f1, X4_f2, X4_f3⟩ := id X4.box
      obtain ⟨X5_c0, X5_c1, X5_c2, X5_c3, X5_f0, X5_f1, X5_f2, X5_f3⟩ := id X5.box
      go_wp2
      go_ret
      exact ⟨rfl, b_w6⟩
    · obtain ⟨X0_c0, X0_c1, X0_c2, X0_c3, X0_f0, X0_f1, X0_f2, X0_f3⟩ := id X0.box
      obtain ⟨X3_c0, X3_c1, X3_c2, X3_c3, X3_f0, X3_f1, X3_f2, X3_f3⟩ := id X3.box
      obtain ⟨X4_c0, X4_c1, X4_c2, X4_c3, X4_f0, X4_f1, X4_f2, X4_f3⟩ := id X4.box
      obtain ⟨X5_c0, X5_c1, X5_c2, X5_c3, X5_f0, X5_f1, X5_f2, X5_f3⟩ := id X5.box
      go_wp2_with fail
      go_at_call 20
      refine (HSAME.out _ _ _ (by exact X4.m) (by exact X0.m)).mono ?_
      rintro e w6 ⟨rfl, hb_w6⟩
      clear X0_c0 X0_c1 X0_c2 X0_c3 X0_f0 X0_f1 X0_f2 X0_f3 X3_c0 X3_c1 X3_c2 X3_c3 X3_f0 X3_f1 X3_f2 X3_f3 X4_c0 X4_c1 X4_c2 X4_c3 X4_f0 X4_f1 X4_f2 X4_f3 X5_c0 X5_c1 X5_c2 X5_c3 X5_f0 X5_f1 X5_f2 X5_f3
      have b_w6 : Below w.heap.size w w6 := b_w5_0.trans (hb_w6.mono b_w5_0.size)
      replace X0 := X0.later hb_w6
      replace P0 := P0.later hb_w6
      replace X3 := X3.later hb_w6
      replace X4 := X4.later hb_w6
      replace X5 := X5.later hb_w6
      obtain ⟨X0_c0, X0_c1, X0_c2, X0_c3, X0_f0, X0_f1, X0_f2, X0_f3⟩ := id X0.box
      obtain ⟨X3_c0, X3_c1, X3_c2, X3_c3, X3_f0, X3_f1, X3_f2, X3_f3⟩ := id X3.box
      obtain ⟨X4_c0, X4_c1, X4_c2, X4_c3, X4_f0, X4_f1, X4_f2, X4_f3⟩ := id X4.box
      obtain ⟨X5_c0, X5_c1, X5_c2, X5_c3, X5_f0, X5_f1, X5_f2, X5_f3⟩ := id X5.box
      go_wp2
      go_ret
      exact ⟨rfl, b_w6⟩
    · obtain ⟨X0_c0, X0_c1, X0_c2, X0_c3, X0_f0, X0_f1, X0_f2, X0_f3⟩ := id X0.box
      obtain ⟨X3_c0, X3_c1, X3_c2, X3_c3, X3_f0, X3_f1, X3_f2, X3_f3⟩ := id X3.box
      obtain ⟨X4_c0, X4_c1, X4_c2, X4_c3, X4_f0, X4_f1, X4_f2, X4_f3⟩ := id X4.box
      obtain ⟨X5_c0, X5_c1, X5_c2, X5_c3, X5_f0, X5_f1, X5_f2, X5_f3⟩ := id X5.box
      go_wp2_with fail
      go_at_call 20
      refine (HSAME.out _ _ _ (by exact X4.m) (by exact X0.m)).mono ?_
      rintro e w6 ⟨rfl, hb_w6⟩
      clear X0_c0 X0_c1 X0_c2 X0_c3 X0_f0 X0_f1 X0_f2 X0_f3 X3_c0 X3_c1 X3_c2 X3_c3 X3_f0 X3_f1 X3_f2 X3_f3 X4_c0 X4_c1 X4_c2 X4_c3 X4_f0 X4_f1 X4_f2 X4_f3 X5_c0 X5_c1 X5_c2 X5_c3 X5_f0 X5_f1 X5_f2 X5_f3
      have b_w6 : Below w.heap.size w w6 := b_w5_0.trans (hb_w6.mono b_w5_0.size)
      replace X0 := X0.later hb_w6
      replace P0 := P0.later hb_w6
      replace X3 := X3.later hb_w6
      replace X4 := X4.later hb_w6
      replace X5 := X5.later hb_w6
      obtain ⟨X0_c0, X0_c1, X0_c2, X0_c3, X0_f0, X0_f1, X0_f2, X0_f3⟩ := id X0.box
      obtain ⟨X3_c0, X3_c1, X3_c2, X3_c3, X3_f0, X3_f1, X3_f2, X3_f3⟩ := id X3.box
      obtain ⟨X4_c0, X4_c1, X4_c2, X4_c3, X4_f0, X4_f1, X4_f2, X4_f3⟩ := id X4.box
      obtain ⟨X5_c0, X5_c1, X5_c2, X5_c3, X5_f0, X5_f1, X5_f2, X5_f3⟩ := id X5.box
      go_wp2_with fail
      go_at_call 20
      refine (HSAME.out _ _ _ (by exact X5.m) (by exact X0.m)).mono ?_
      rintro e w7 ⟨rfl, hb_w7⟩
      clear X0_c0 X0_c1 X0_c2 X0_c3 X0_f0 X0_f1 X0_f2 X0_f3 X3_c0 X3_c1 X3_c2 X3_c3 X3_f0 X3_f1 X3_f2 X3_f3 X4_c0 X4_c1 X4_c2 X4_c3 X4_f0 X4_f1 X4_f2 X4_f3 X5_c0 X5_c1 X5_c2 X5_c3 X5_f0 X5_f1 X5_f2 X5_f3
      have b_w7 : Below w.heap.size w w7 := b_w6.trans (hb_w7.mono b_w6.size)
      replace X0 := X0.later hb_w7
      replace P0 := P0.later hb_w7
      replace X3 := X3.later hb_w7
      replace X4 := X4.later hb_w7
      replace X5 := X5.later hb_w7
      obtain ⟨X0_c0, X0_c1, X0_c2, X0_c3, X0_f0, X0_f1, X0_f2, X0_f3⟩ := id X0.box
      obtain ⟨X3_c0, X3_c1, X3_c2, X3_c3, X3_f0, X3_f1, X3_f2, X3_f3⟩ := id X3.box
      obtain ⟨X4_c0, X4_c1, X4_c2, X4_c3, X4_f0, X4_f1, X4_f2, X4_f3⟩ := id X4.box
      obtain ⟨X5_c0, X5_c1, X5_c2, X5_c3, X5_f0, X5_f1, X5_f2, X5_f3⟩ := id X5.box
      go_wp2
      go_ret
      exact ⟨rfl, b_w7⟩
    · obtain ⟨X0_c0, X0_c1, X0_c2, X0_c3, X0_f0, X0_f1, X0_f2, X0_f3⟩ := id X0.box
      obtain ⟨X3_c0, X3_c1, X3_c2, X3_c3, X3_f0, X3_f1, X3_f2, X3_f3⟩ := id X3.box
      obtain ⟨X4_c0, X4_c1, X4_c2, X4_c3, X4_f0, X4_f1, X4_f2, X4_f3⟩ := id X4.box
      obtain ⟨X5_c0, X5_c1, X5_c2, X5_c3, X5_f0, X5_f1, X5_f2, X5_f3⟩ := id X5.box
      go_wp2_with fail
      go_at_call 20
      refine (HSAME.out _ _ _ (by exact X3.m) (by exact X0.m)).mono ?_
      rintro e w6 ⟨rfl, hb_w6⟩
      clear X0_c0 X0_c1 X0_c2 X0_c3 X0_f0 X0_f1 X0_f2 X0_f3 X3_c0 X3_c1 X3_c2 X3_c3 X3_f0 X3_f1 X3_f2 X3_f3 X4_c0 X4_c1 X4_c2 X4_c3 X4_f0 X4_f1 X4_f2 X4_f3 X5_c0 X5_c1 X5_c2 X5_c3 X5_f0 X5_f1 X5_f2 X5_f3
      have b_w6 : Below w.heap.size w w6 := b_w5_0.trans (hb_w6.mono b_w5_0.size)
      replace X0 := X0.later hb_w6
      replace P0 := P0.later hb_w6
      replace X3 := X3.later hb_w6
      replace X4 := X4.later hb_w6
      replace X5 := X5.later hb_w6
      obtain ⟨X0_c0, X0_c1, X0_c2, X0_c3, X0_f0, X0_f1, X0_f2, X0_f3⟩ := id X0.box
      obtain ⟨X3_c0, X3_c1, X3_c2, X3_c3, X3_f0, X3_f1, X3_f2, X3_f3⟩ := id X3.box
      obtain ⟨X4_c0, X4_c1, X4_c2, X4_c3, X4_f0, X4_f1, X4_f2, X4_f3⟩ := id X4.box
      obtain ⟨X5_c0, X5_c1, X5_c2, X5_c3, X5_f0, X5_f1, X5_f2, X5_f3⟩ := id X5.box
      go_wp2
      go_ret
      exact ⟨rfl, b_w6⟩
    · obtain ⟨X0_c0, X0_c1, X0_c2, X0_c3, X0_f0, X0_f1, X0_f2, X0_f3⟩ := id X0.box
      obtain ⟨X3_c0, X3_c1, X3_c2, X3_c3, X3_f0, X3_f1, X3_f2, X3_f3⟩ := id X3.box
      obtain ⟨X4_c0, X4_c1, X4_c2, X4_c3, X4_f0, X4_f1, X4_f2, X4_f3⟩ := id X4.box
      obtain ⟨X5_c0, X5_c1, X5_c2, X5_c3, X5_f0, X5_f1, X5_f2, X5_f3⟩ := id X5.box
      go_wp2_with fail
      go_at_call 20
      refine (HSAME.out _ _ _ (by exact X3.m) (by exact X0.m)).mono ?_
      rintro e w6 ⟨rfl, hb_w6⟩
      clear X0_c0 X0_c1 X0_c2 X0_c3 X0_f0 X0_f1 X0_f2 X0_f3 X3_c0 X3_c1 X3_c2 X3_c3 X3_f0 X3_f1 X3_f2 X3_f3 X4_c0 X4_c1 X4_c2 X4_c3 X4_f0 X4_f1 X4_f2 X4_f3 X5_c0 X5_c1 X5_c2 X5_c3 X5_f0 X5_f1 X5_f2 X5_f3
      have b_w6 : Below w.heap.size w w6 := b_w5_0.trans (hb_w6.mono b_w5_0.size)
      replace X0 := X0.later hb_w6
      replace P0 := P0.later hb_w6
      replace X3 := X3.later hb_w6
      replace X4 := X4.later hb_w6
      replace X5 := X5.later hb_w6
      obtain ⟨X0_c0, X0_c1, X0_c2, X0_c3, X0_f0, X0_f1, X0_f2, X0_f3⟩ := id X0.box
      obtain ⟨X3_c0, X3_c1, X3_c2, X3_c3, X3_f0, X3_f1, X3_f2, X3_f3⟩ := id X3.box
      obtain ⟨X4_c0, X4_c1, X4_c2, X4_c3, X4_f0, X4_f1, X4_f2, X4_f3⟩ := id X4.box
      obtain ⟨X5_c0, X5_c1, X5_c2, X5_c3, X5_f0, X5_f1, X5_f2, X5_f3⟩ := id X5.box
      go_wp2_with fail
      go_at_call 20
      refine (HSAME.out _ _ _ (by exact X5.m) (by exact X0.m)).mono ?_
      rintro e w7 ⟨rfl, hb_w7⟩
      clear X0_c0 X0_c1 X0_c2 X0_c3 X0_f0 X0_f1 X0_f2 X0_f3 X3_c0 X3_c1 X3_c2 X3_c3 X3_f0 X3_f1 X3_f2 X3_f3 X4_c0 X4_c1 X4_c2 X4_c3 X4_f0 X4_f1 X4_f2 X4_f3 X5_c0 X5_c1 X5_c2 X5_c3 X5_f0 X5_f1 X5_f2 X5_f3
      have b_w7 : Below w.heap.size w w7 := b_w6.trans (hb_w7.mono b_w6.size)
      replace X0 := X0.later hb_w7
      replace P0 := P0.later hb_w7
      replace X3 := X3.later hb_w7
      replace X4 := X4.later hb_w7
      replace X5 := X5.later hb_w7
      obtain ⟨X0_c0, X0_c1, X0_c2, X0_c3, X0_f0, X0_f1, X0_f2, X0_f3⟩ := id X0.box
      obtain ⟨X3_c0, X3_c1, X3_c2, X3_c3, X3_f0, X3_f1, X3_f2, X3_f3⟩ := id X3.box
      obtain ⟨X4_c0, X4_c1, X4_c2, X4_c3, X4_f0, X4_f1, X4_f2, X4_f3⟩ := id X4.box
      obtain ⟨X5_c0, X5_c1, X5_c2, X5_c3, X5_f0, X5_f1, X5_f2, X5_f3⟩ := id X5.box
      go_wp2
      go_ret
      exact ⟨rfl, b_w7⟩
    · obtain ⟨X0_c0, X0_c1, X0_c2, X0_c3, X0_f0, X0_f1, X0_f2, X0_f3⟩ := id X0.box
      obtain ⟨X3_c0, X3_c1, X3_c2, X3_c3, X3_f0, X3_f1, X3_f2, X3_f3⟩ := id X3.box
      obtain ⟨X4_c0, X4_c1, X4_c2, X4_c3, X4_f0, X4_f1, X4_f2, X4_f3⟩ := id X4.box
      obtain ⟨X5_c0, X5_c1, X5_c2, X5_c3, X5_f0, X5_f1, X5_f2, X5_f3⟩ := id X5.box
      go_wp2_with fail
      go_at_call 20
      refine (HSAME.out _ _ _ (by exact X3.m) (by exact X0.m)).mono ?_
      rintro e w6 ⟨rfl, hb_w6⟩
      clear X0_c0 X0_c1 X0_c2 X0_c3 X0_f0 X0_f1 X0_f2 X0_f3 X3_c0 X3_c1 X3_c2 X3_c3 X3_f0 X3_f1 X3_f2 X3_f3 X4_c0 X4_c1 X4_c2 X4_c3 X4_f0 X4_f1 X4_f2 X4_f3 X5_c0 X5_c1 X5_c2 X5_c3 X5_f0 X5_f1 X5_f2 X5_f3
      have b_w6 : Below w.heap.size w w6 := b_w5_0.trans (hb_w6.mono b_w5_0.size)
      replace X0 := X0.later hb_w6
      replace P0 := P0.later hb_w6
      replace X3 := X3.later hb_w6
      replace X4 := X4.later hb_w6
      replace X5 := X5.later hb_w6
      obtain ⟨X0_c0, X0_c1, X0_c2, X0_c3, X0_f0, X0_f1, X0_f2, X0_f3⟩ := id X0.box
      obtain ⟨X3_c0, X3_c1, X3_c2, X3_c3, X3_f0, X3_f1, X3_f2, X3_f3⟩ := id X3.box
      obtain ⟨X4_c0, X4_c1, X4_c2, X4_c3, X4_f0, X4_f1, X4_f2, X4_f3⟩ := id X4.box
      obtain ⟨X5_c0, X5_c1, X5_c2, X5_c3, X5_f0, X5_f1, X5_f2, X5_f3⟩ := id X5.box
      go_wp2_with fail
      go_at_call 20
      refine (HSAME.out _ _ _ (by exact X4.m) (by exact X0.m)).mono ?_
      rintro e w7 ⟨rfl, hb_w7⟩
      clear X0_c0 X0_c1 X0_c2 X0_c3 X0_f0 X0_f1 X0_f2 X0_f3 X3_c0 X3_c1 X3_c2 X3_c3 X3_f0 X3_f1 X3_f2 X3_f3 X4_c0 X4_c1 X4_c2 X4_c3 X4_f0 X4_f1 X4_f2 X4_f3 X5_c0 X5_c1 X5_c2 X5_c3 X5_f0 X5_f1 X5_f2 X5_f3
      have b_w7 : Below w.heap.size w w7 := b_w6.trans (hb_w7.mono b_w6.size)
      replace X0 := X0.later hb_w7
      replace P0 := P0.later hb_w7
      replace X3 := X3.later hb_w7
      replace X4 := X4.later hb_w7
      replace X5 := X5.later hb_w7
      obtain ⟨X0_c0, X0_c1, X0_c2, X0_c3, X0_f0, X0_f1, X0_f2, X0_f3⟩ := id X0.box
      obtain ⟨X3_c0, X3_c1, X3_c2, X3_c3, X3_f0, X3_f1, X3_f2, X3_f3⟩ := id X3.box
      obtain ⟨X4_c0, X4_c1, X4_c2, X4_c3, X4_f0, X4_f1, X4_f2, X4_f3⟩ := id X4.box
      obtain ⟨X5_c0, X5_c1, X5_c2, X5_c3, X5_f0, X5_f1, X5_f2, X5_f3⟩ := id X5.box
      go_wp2
      go_ret
      exact ⟨rfl, b_w7⟩
    · obtain ⟨X0_c0, X0_c1, X0_c2, X0_c3, X0_f0, X0_f1, X0_f2, X0_f3⟩ := id X0.box
      obtain ⟨X3_c0, X3_c1, X3_c2, X3_c3, X3_f0, X3_f1, X3_f2, X3_f3⟩ := id X3.box
      obtain ⟨X4_c0, X4_c1, X4_c2, X4_c3, X4_f0, X4_f1, X4_f2, X4_f3⟩ := id X4.box
      obtain ⟨X5_c0, X5_c1, X5_c2, X5_c3, X5_f0, X5_f1, X5_f2, X5_f3⟩ := id X5.box
      go_wp2_with fail
      go_at_call 20
      refine (HSAME.out _ _ _ (by exact X3.m) (by exact X0.m)).mono ?_
      rintro e w6 ⟨rfl, hb_w6⟩
      clear X0_c0 X0_c1 X0_c2 X0_c3 X0_f0 X0_f1 X0_f2 X0_f3 X3_c0 X3_c1 X3_c2 X3_c3 X3_f0 X3_f1 X3_f2 X3_f3 X4_c0 X4_c1 X4_c2 X4_c3 X4_f0 X4_f1 X4_f2 X4_f3 X5_c0 X5_c1 X5_c2 X5_c3 X5_f0 X5_f1 X5_f2 X5_f3
      have b_w6 : Below w.heap.size w w6 := b_w5_0.trans (hb_w6.mono b_w5_0.size)
      replace X0 := X0.later hb_w6
      replace P0 := P0.later hb_w6
      replace X3 := X3.later hb_w6
      replace X4 := X4.later hb_w6
      replace X5 := X5.later hb_w6
      obtain ⟨X0_c0, X0_c1, X0_c2, X0_c3, X0_f0, X0_f1, X0_f2, X0_f3⟩ := id X0.box
      obtain ⟨X3_c0, X3_c1, X3_c2, X3_c3, X3_f0, X3_f1, X3_f2, X3_f3⟩ := id X3.box
      obtain ⟨X4_c0, X4_c1, X4_c2, X4_c3, X4_f0, X4_f1, X4_f2, X4_f3⟩ := id X4.box
      obtain ⟨X5_c0, X5_c1, X5_c2, X5_c3, X5_f0, X5_f1, X5_f2, X5_f3⟩ := id X5.box
      go_wp2_with fail
      go_at_call 20
      refine (HSAME.out _ _ _ (by exact X4.m) (by exact X0.m)).mono ?_
      rintro e w7 ⟨rfl, hb_w7⟩
      clear X0_c0 X0_c1 X0_c2 X0_c3 X0_f0 X0_f1 X0_f2 X0_f3 X3_c0 X3_c1 X3_c2 X3_c3 X3_f0 X3_f1 X3_f2 X3_f3 X4_c0 X4_c1 X4_c2 X4_c3 X4_f0 X4_f1 X4_f2 X4_f3 X5_c0 X5_c1 X5_c2 X5_c3 X5_f0 X5_f1 X5_f2 X5_f3
      have b_w7 : Below w.heap.size w w7 := b_w6.trans (hb_w7.mono b_w6.size)
      replace X0 := X0.later hb_w7
      replace P0 := P0.later hb_w7
      replace X3 := X3.later hb_w7
      replace X4 := X4.later hb_w7
      replace X5 := X5.later hb_w7
      obtain ⟨X0_c0, X0_c1, X0_c2, X0_c3, X0_f0, X0_f1, X0_f2, X0_f3⟩ := id X0.box
      obtain ⟨X3_c0, X3_c1, X3_c2, X3_c3, X3_f0, X3_f1, X3_f2, X3_f3⟩ := id X3.box
      obtain ⟨X4_c0, X4_c1, X4_c2, X4_c3, X4_f0, X4_f1, X4_f2, X4_f3⟩ := id X4.box
      obtain ⟨X5_c0, X5_c1, X5_c2, X5_c3, X5_f0, X5_f1, X5_f2, X5_f3⟩ := id X5.box
      go_wp2_with fail
      go_at_call 20
      refine (HSAME.out _ _ _ (by exact X5.m) (by exact X0.m)).mono ?_
      rintro e w8 ⟨rfl, hb_w8⟩
      clear X0_c0 X0_c1 X0_c2 X0_c3 X0_f0 X0_f1 X0_f2 X0_f3 X3_c0 X3_c1 X3_c2 X3_c3 X3_f0 X3_f1 X3_f2 X3_f3 X4_c0 X4_c1 X4_c2 X4_c3 X4_f0 X4_f1 X4_f2 X4_f3 X5_c0 X5_c1 X5_c2 X5_c3 X5_f0 X5_f1 X5_f2 X5_f3
      have b_w8 : Below w.heap.size w w8 := b_w7.trans (hb_w8.mono b_w7.size)
      replace X0 := X0.later hb_w8
      replace P0 := P0.later hb_w8
      replace X3 := X3.later hb_w8
      replace X4 := X4.later hb_w8
      replace X5 := X5.later hb_w8
      obtain ⟨X0_c0, X0_c1, X0_c2, X0_c3, X0_f0, X0_f1, X0_f2, X0_f3⟩ := id X0.box
      obtain ⟨X3_c0, X3_c1, X3_c2, X3_c3, X3_f0, X3_f1, X3_f2, X3_f3⟩ := id X3.box
      obtain ⟨X4_c0, X4_c1, X4_c2, X4_c3, X4_f0, X4_f1, X4_f2, X4_f3⟩ := id X4.box
      obtain ⟨X5_c0, X5_c1, X5_c2, X5_c3, X5_f0, X5_f1, X5_f2, X5_f3⟩ := id X5.box
      go_wp2
      go_ret
      exact ⟨rfl, b_w8⟩
  · have HC := Lib.hid fun (w : World) hz hM => zcheck_any (w := w) (v := v) (h := h) hz hM (by have := hs.l; omega) hs.ws 2 (.inr ⟨hk, rfl⟩)
    clear hk hs hM hnil
    unfold hpV hpv at HC ⊢
    go_enter Tryz.func12, Tryz.ntmps12
    go_wp2_with fail
    go_at_call 19
    refine (hlives_any _ (hz.later (by repeat (first|exact bR _ _|assumption|refine bN ?_ _|refine bD ?_|refine bA ?_ (by first|omega|simp;omega|simp) _|refine bS ?_ (by first|omega|simp;omega|simp) _|refine bT ?_ (by assumption) (by first|omega|simp;omega|simp))))).mono ?_
    rintro e w1 ⟨rfl, hb_w1⟩
    have b_w1 : Below w.heap.size w w1 := (by repeat (first|exact bR _ _|assumption|refine bN ?_ _|refine bD ?_|refine bA ?_ (by first|omega|simp;omega|simp) _|refine bS ?_ (by first|omega|simp;omega|simp) _|refine bT ?_ (by assumption) (by first|omega|simp;omega|simp)))
    replace X0 := X0.later hb_w1
    replace P0 := P0.later hb_w1
    obtain ⟨X0_c0, X0_c1, X0_c2, X0_c3, X0_f0, X0_f1, X0_f2, X0_f3⟩ := id X0.box
    go_wp2_with fail
    go_at_call 21
    refine (HC.out _ (hz.later (by exact b_w1)) X0.m).mono ?_
    rintro e w2 ⟨rfl, hb_w2⟩
    clear X0_c0 X0_c1 X0_c2 X0_c3 X0_f0 X0_f1 X0_f2 X0_f3
    have b_w2 : Below w.heap.size w w2 := b_w1.trans (hb_w2.mono b_w1.size)
    replace X0 := X0.later hb_w2
    replace P0 := P0.later hb_w2
    go_wp2
    go_ret
    exact ⟨rfl, b_w2⟩
end Go.Proofs.YtogfbdeplogcfaaGreatDoor
