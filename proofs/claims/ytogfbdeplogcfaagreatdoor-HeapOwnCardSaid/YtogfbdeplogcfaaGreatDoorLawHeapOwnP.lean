/- parts Leaf, Ref, Own, Copy, Agree, ZU, S28, S29, Z26, S30, Z38, B1, P3, Z43, Z48, Z51, Z52 -/
import Derived.Test.YtogfbdeplogcfaaGreatDoorMY19
import Derived.WalkKit
import Derived.BigQuiet
import Derived.Deep.QuietTactic
import Derived.WalkLawsBesides
import Derived.WalkSpells
import Derived.Lib.Hide
import Derived.Outline
import Derived.Test.YtogfbdeplogcfaaGreatDoorProg
import Derived.LoopTactic
import Derived.Deep.AppendLies
import Derived.OwnWalk
import Derived.Deep.RegionHeld3
set_option linter.unusedVariables false
set_option linter.unusedSimpArgs false
namespace Go.Proofs.YtogfbdeplogcfaaGreatDoor
open Go.RowKit

theorem ret_bool {a b : Bool} (h : a = b) : Ending.returned (.bool a) = .returned (.bool b) := by rw [h]
end Go.Proofs.YtogfbdeplogcfaaGreatDoor
namespace Go.Proofs.YtogfbdeplogcfaaGreatDoor
open Go.RowKit

section
variable (n : Int) (A : Option Addr) (len cap : Nat) (w : World)
end

def SameTo (ws ws' : List Nat) (k : Nat) : Prop := ∀ j, j < k → ws.getD j 0 = ws'.getD j 0
theorem same_loop (n : Int) (A A' : Option Addr) (cap cap' : Nat) (ws ws' : List Nat) (w : World) (hr : Row w w.heap.size A ws) (hr' : Row w w.heap.size A' ws') (hl : ws.length = ws'.length) (hm : ws.length ≤ maxLen) :
    Calls Tryz.prog 138 #[.agg #[.int .i64 n, .slice A ws.length cap], .agg #[.int .i64 n, .slice A' ws.length cap']] w fun e w' => e = .returned (.bool (decide (ws = ws'))) ∧ Below w.heap.size w w' := by
  unfold maxLen at hm
  have H := Lib.hid hl
  clear hl
  have hd : (n != n) = false := by simp
  have hd2 : ((ws.length : Int) != (ws.length : Int)) = false := by simp
  go_enter Tryz.func138, Tryz.ntmps138
  go_wp2
  go_loopw [23] (fun i wr => ∃ k m : Nat, i = .int .i64 k ∧ k ≤ ws.length ∧ SameTo ws ws' k ∧ wr = ((w.alloc (Obj.cells #[Value.int IntKind.i64 n, Value.slice A ws.length cap] 26)).alloc (Obj.cells #[Value.int IntKind.i64 n, Value.slice A' ws.length cap'] 26)).drewN m)
    (fun i _ => ws.length - (intOf i).toNat)
  case atStart => exact ⟨0, 0, rfl, Nat.zero_le _, fun j h => by omega, rfl⟩
  case round =>
    obtain ⟨k, m, rfl, hk, hs, rfl⟩ := hrel
    by_cases hlt : k < ws.length
    · obtain ⟨b, off, rfl, hb, hc⟩ := hr.at_ (by omega)
      obtain ⟨b', off', rfl, hb', hc'⟩ := hr'.at_ (by have := H.out; omega)
      have hck := hc k hlt
      have hck' := hc' k (by have := H.out; omega)
      obtain ⟨x, hx⟩ := named ws k
      obtain ⟨x', hx'⟩ := named ws' k
      rw [hx.out] at hck
      rw [hx'.out] at hck'
      clear hc hc'
      go_wp2
      go_quiet (fail)
      go_wp2
      · have ht : ((x : Int) != (x' : Int)) = true := by assumption
        go_ret
        refine ⟨ret_bool (decide_eq_false ?_).symm, (by repeat (first|exact bR _ _|assumption|refine bN ?_ _|refine bD ?_|refine bA ?_ (by first|omega|simp;omega|simp) _|refine bS ?_ (by first|omega|simp;omega|simp) _|refine bT ?_ (by assumption) (by first|omega|simp;omega|simp)))⟩
        rintro rfl
        rw [← hx.out, ← hx'.out] at ht
        simp at ht
      · have ht : ((x : Int) != (x' : Int)) = false := by assumption
        go_roundw
        case rel => exact ⟨k + 1, _, by go_num, by omega, fun j hj => by
            by_cases e : j = k
            · rw [e, hx.out, hx'.out]; have := bne_eq_false_iff_eq.1 ht; omega
            · exact hs j (by omega), rfl⟩
        case measure => simp [intOf]; omega
    · go_wp2
      go_ret
      exact ⟨ret_bool (decide_eq_true (List.ext_getElem H.out (fun i h1 h2 => by have := hs i (by omega); simpa [h1, h2] using this))).symm, (by repeat (first|exact bR _ _|assumption|refine bN ?_ _|refine bD ?_|refine bA ?_ (by first|omega|simp;omega|simp) _|refine bS ?_ (by first|omega|simp;omega|simp) _|refine bT ?_ (by assumption) (by first|omega|simp;omega|simp)))⟩
end Go.Proofs.YtogfbdeplogcfaaGreatDoor
namespace Go.Proofs.YtogfbdeplogcfaaGreatDoor
open Go.RowKit

theorem block3 (w : World) (o o' o'' : Obj) : (((w.alloc o).alloc o').alloc o'').heap[w.heap.size + 2]? = some o'' := by
  have h := block2 (w.alloc o) o' o''
  rwa [World.size_alloc] at h
theorem own_empty (w w' : World) (o o' : Obj) (h : w'.heap = (((w.alloc o).alloc o').alloc (.cells #[] 32)).heap) : w'.ownsRow (w.heap.size + 2) 32 1 (.slice (some ⟨w.heap.size + 1 + 1, 0, none⟩) 0 0) 0 [] :=
  ⟨rfl, .inr ⟨w.heap.size + 1 + 1, 0, #[], rfl, Nat.le_refl _, by rw [h]; exact block3 _ _ _ _, Nat.le_refl _, Nat.zero_le _, rfl, rfl⟩⟩
theorem Own.of_owns {w : World} {B g cap : Nat} {ws : List Nat} (h : w.ownsRow B 32 1 (.slice (some ⟨g, 0, none⟩) ws.length cap) ws.length (vals ws)) (hw : Words ws) : Own w B (some ⟨g, 0, none⟩) ws :=
  ⟨hw, fun hl => ⟨g, rfl, (h.lt g rfl).1, (h.lt g rfl).2, fun i hi => ⟨by rw [h.cellAt i (by omega), vals_at ws i hi], h.frozenAt i⟩⟩⟩
end Go.Proofs.YtogfbdeplogcfaaGreatDoor
namespace Go.Proofs.YtogfbdeplogcfaaGreatDoor
open Go.RowKit

theorem res_one {fn : Func} {p : Tmp} (h : fn.results = #[.cell p 26]) {tmps : Array Value} {w : World} {g : Nat} {v0 v1 : Value} (hp : tmps.getD p undef = .pointer (some ⟨g, 0, none⟩))
    (h0 : w.cell? ⟨g, 0, none⟩ = some v0) (h1 : w.cell? ⟨g, 1, none⟩ = some v1) : (results fn tmps).run Tryz.prog w = .ok (.agg #[v0, v1]) w := by
  have hp2 : tmps[p]?.getD undef = .pointer (some ⟨g, 0, none⟩) := by rw [← hp]; simp
  simp only [results, h]
  simp [go_sem, Result.andThen, h0, h1, asAddr, hp2]

theorem copy_nil (n : Int) (A : Option Addr) (cap : Nat) (w : World) :
    Calls Tryz.prog 114 #[.agg #[.int .i64 n, .slice A 0 cap]] w fun e w' => Copied w n [] e w' := by
  cases A
  all_goals
    go_enter Tryz.func114, Tryz.ntmps114
    go_wp2
    go_region
    all_goals
      go_wp2
      exact bodyPost_ret (res_one rfl rfl (g := w.heap.size + 1) (by simp [go_sem] <;> rfl) (by simp [go_sem] <;> rfl)) rfl ⟨_, 0, rfl, ⟨fun x hx => by simp at hx, fun h => by simp at h⟩, (by repeat (first|exact bR _ _|assumption|refine bN ?_ _|refine bD ?_|refine bA ?_ (by first|omega|simp;omega|simp) _|refine bS ?_ (by first|omega|simp;omega|simp) _|refine bT ?_ (by assumption) (by first|omega|simp;omega|simp)))⟩

theorem copy_some (n : Int) (b off cap : Nat) (ws : List Nat) (w : World) (hr : Row w w.heap.size (some ⟨b, off, none⟩) ws) (h0 : 0 < ws.length) (hm : ws.length ≤ 17592186044416) :
    Calls Tryz.prog 114 #[.agg #[.int .i64 n, .slice (some ⟨b, off, none⟩) ws.length cap]] w fun e w' => Copied w n ws e w' := by
  obtain ⟨i0, hi, hz0, hz1, hz2⟩ := info_parts info_u64
  go_enter Tryz.func114, Tryz.ntmps114
  go_wp2
  go_region_law ((refine step_append_lies _ rfl (.tmp 5) (.tmp 7) 22 rfl (w.heap.size + 2) 32 i0 _ 1 8 Tryz.underlying22 hi hz0 hz1 hz2 rfl (by omega) (.slice (some ⟨w.heap.size + 1 + 1, 0, none⟩) 0 0) 0 [] (by simp [Act.eval, Act.put]) (own_empty w _ _ _ rfl) ⟨b, off, none⟩ ws.length cap (vals ws) (by simp [Act.eval, Act.put]) (by simp [vals]) (hr.src2 (by repeat (first|exact bR _ _|assumption|refine bN ?_ _|refine bD ?_|refine bA ?_ (by first|omega|simp;omega|simp) _|refine bS ?_ (by first|omega|simp;omega|simp) _|refine bT ?_ (by assumption) (by first|omega|simp;omega|simp)))) (vals_one ws) h0 (by unfold maxLen; omega) (by omega) (by simp) _ rfl ?_; intro g cap2 w2 hown2 hg2 hat2 hlt2; simp only [Nat.zero_add, List.nil_append] at hown2; have hb_w2 : Below (w.heap.size + 2) _ w2 := (Below.refl _ _).grown hg2 (by first|omega|simp;omega|simp) (fun k hk => (by simp [Value.ownBlock] at hk; omega)); obtain ⟨hc_w2, hf_w2⟩ := bcell hb_w2; have hz_w2_w_0 : w.heap.size < w2.heap.size := (by have hzz := hb_w2.size; (try simp only [zA, zS, zD, zN] at hzz); omega); have hz_w2_w_1 : w.heap.size + 1 < w2.heap.size := (by have hzz := hb_w2.size; (try simp only [zA, zS, zD, zN] at hzz); omega)))
  all_goals
    go_wp2
    have k0 : w2.cell? ⟨w.heap.size + 1, 0, none⟩ = _ := (hc_w2 _ _ (by first|omega|simp;omega|simp)).trans (by simp [go_sem]; rfl)
    have k1 : w2.cell? ⟨w.heap.size + 1, 1, none⟩ = _ := (hc_w2 _ _ (by first|omega|simp;omega|simp)).trans (by simp [go_sem]; rfl)
    have ho := Own.of_owns hown2 hr.words
    exact bodyPost_ret (res_one rfl rfl (set_two _ _ k0 k1).1 (set_two _ _ k0 k1).2) rfl ⟨_, cap2, rfl, ((ho.far (.inl (by first|omega|simp;omega|simp)) _).far (.inl (by first|omega|simp;omega|simp)) _).mono (by first|omega|simp;omega|simp), (by repeat (first|exact bR _ _|assumption|refine bN ?_ _|refine bD ?_|refine bA ?_ (by first|omega|simp;omega|simp) _|refine bS ?_ (by first|omega|simp;omega|simp) _|refine bT ?_ (by assumption) (by first|omega|simp;omega|simp)))⟩

theorem copy_any (n : Int) {A : Option Addr} (cap : Nat) {ws : List Nat} {w : World} (hr : Row w w.heap.size A ws) (hm : ws.length ≤ 17592186044416) :
    Calls Tryz.prog 114 #[.agg #[.int .i64 n, .slice A ws.length cap]] w fun e w' => Copied w n ws e w' := by
  by_cases h0 : 0 < ws.length
  · obtain ⟨b, off, rfl, _, _⟩ := hr.at_ h0
    exact copy_some n b off cap ws w hr h0 hm
  · obtain rfl : ws = [] := List.eq_nil_of_length_eq_zero (by omega)
    exact copy_nil n A cap w

end Go.Proofs.YtogfbdeplogcfaaGreatDoor
namespace Go.Proofs.YtogfbdeplogcfaaGreatDoor
open Go.RowKit

theorem same_ok (n : Int) (ws : List Nat) (hm : ws.length ≤ maxLen) (w : World) (A A' : Option Addr) (cap cap' : Nat) (hr : Row w w.heap.size A ws) (hr' : Row w w.heap.size A' ws) :
    Calls Tryz.prog 138 #[.agg #[.int .i64 n, .slice A ws.length cap], .agg #[.int .i64 n, .slice A' ws.length cap']] w fun e w' => e = .returned (.bool true) ∧ Below w.heap.size w w' :=
  (same_loop n A A' cap cap' ws ws w hr hr' rfl hm).mono fun _ _ ⟨h1, h2⟩ => ⟨by rw [h1, decide_eq_true rfl], h2⟩
end Go.Proofs.YtogfbdeplogcfaaGreatDoor
namespace Go.Proofs.YtogfbdeplogcfaaGreatDoor
open Go.RowKit
set_option maxRecDepth 100000

theorem Ok1.unm {d : Sd} (h : Ok1 d) : Ok1 (unmD d) ∧ ∀ i, i < slN d → tb (unmD d).mw i = false := by
  have hN := h.slK
  have hmn := h.mn
  have hl := h.m.long
  have key : ∀ i, i < slN d → tb (fillW d.mw 0 d.mn.toNat false) i = false := fun i hi => by
    rw [tb_fillW _ _ _ _ _ (by omega), if_pos (by omega)]
  refine ⟨⟨h.sized, h.placed, h.a, h.an, right_fillW h.m 0 d.mn.toNat false (by omega), h.mn, fun i hi ht => ?_⟩, key⟩
  have ht : tb (fillW d.mw 0 d.mn.toNat false) i = true := ht
  rw [key i hi] at ht
  cases ht
theorem unmH_like {h : Hp} (hk : OkH h) : Like h (unmH h) := by
  refine ⟨rfl, rfl, rfl, by simp [unmH], fun j hj => ?_, fun j hj => ?_⟩
  · show Pl _ (nth (h.l.map unmD) j)
    rw [nth_map _ _ _ hj]
    exact ⟨rfl, rfl, rfl⟩
  · show Ok1 (nth (h.l.map unmD) j)
    rw [nth_map _ _ _ hj]
    exact (hk.framed.spans.at_ hj).unm.1
theorem unmH_cur {h : Hp} (hk : OkH h) (hs : SweptH h) (a : Nat) : Cur (unmH h) a ↔ Cur h a := by
  refine cur_like (unmH_like hk) (fun j q hj hq => ?_) a
  show tb (curW (nth (h.l.map unmD) j)) q = _
  rw [nth_map _ _ _ hj]
  unfold curW unmD
  simp [hs j hj]
theorem unmH_ok {h : Hp} (hk : OkH h) (hs : SweptH h) : OkH (unmH h) := by
  refine hk.recur (unmH_like hk) rfl (fun j q hj hq => ?_) (fun j q hj hq hc' => ?_)
  · show tb (nth (h.l.map unmD) j).aw q = _
    rw [nth_map _ _ _ hj]
    rfl
  · have hc2 : tb (curW (nth h.l j)) q = true := by
      rw [← hc']
      show _ = tb (curW (nth (h.l.map unmD) j)) q
      rw [nth_map _ _ _ hj]
      unfold curW unmD
      simp [hs j hj]
    exact ((linked_iff hk.framed.spans).1 hk.linked j q hj hq hc2).mono fun a h => (unmH_cur hk hs a).2 h
end Go.Proofs.YtogfbdeplogcfaaGreatDoor
namespace Go.Proofs.YtogfbdeplogcfaaGreatDoor
open Go.RowKit

theorem res_span1 {fn : Func} {p : Tmp} (h : fn.results = #[.cell p 65]) {tmps : Array Value} {w : World} {g ca cm : Nat} {d : Sd} {A M : Option Addr} (hp : tmps.getD p undef = .pointer (some ⟨g, 0, none⟩))
    (h8 : Sp8 w g 0 d A ca M cm) : (results fn tmps).run Tryz.prog w = .ok (spv d A ca M cm) w := by
  have hp2 : tmps[p]?.getD undef = .pointer (some ⟨g, 0, none⟩) := by rw [← hp]; simp
  obtain ⟨c0, c1, c2, c3, c4, c5, c6, c7⟩ := h8
  simp only [Nat.zero_add] at c0 c1 c2 c3 c4 c5 c6 c7
  simp only [results, h]
  simp [go_sem, Result.andThen, c0, c1, c2, c3, c4, c5, c6, c7, asAddr, hp2, spv]
def OneS (w : World) (d : Sd) (e : Ending) (w' : World) : Prop := ∃ A ca M cm, e = .returned (spv d A ca M cm) ∧ Own w' w.heap.size A d.aw ∧ Own w' w.heap.size M d.mw ∧ Below w.heap.size w w'
section
variable {w : World} {A M : Option Addr} (ca cm : Nat)
set_option maxHeartbeats 2000000 in
theorem xone_any (d : Sd) (hA : Row w w.heap.size A d.aw) (hM : Row w w.heap.size M d.mw) (la : d.aw.length ≤ 17592186044416) (lm : d.mw.length ≤ 17592186044416) :
    Calls Tryz.prog 115 #[spv d A ca M cm] w fun e w' => OneS w d e w' := by
  unfold OneS
  have HA := Lib.hid fun (w : World) hr => copy_any d.an (A := A) ca (ws := d.aw) (w := w) hr la
  have HM := Lib.hid fun (w : World) hr => copy_any d.mn (A := M) cm (ws := d.mw) (w := w) hr lm
  unfold Copied at HA HM
  obtain ⟨f, p, z, an, aw, mn, mw, s⟩ := d
  unfold spv
  simp only at *
  go_enter Tryz.func115, Tryz.ntmps115
  go_wp2_with fail
  go_at_call 114
  refine (HA.out _ (hA.later (by repeat (first|exact bR _ _|assumption|refine bN ?_ _|refine bD ?_|refine bA ?_ (by first|omega|simp;omega|simp) _|refine bS ?_ (by first|omega|simp;omega|simp) _|refine bT ?_ (by assumption) (by first|omega|simp;omega|simp))))).mono ?_
  rintro e w2 ⟨A2, c2, rfl, o2, hb_w2⟩
  obtain ⟨hc_w2, hf_w2⟩ := bcell hb_w2
  have hs2 := hb_w2.size
  (try simp only [zA] at hs2)
  have b2 : Below w.heap.size w w2 := (by repeat (first|exact bR _ _|assumption|refine bN ?_ _|refine bD ?_|refine bA ?_ (by first|omega|simp;omega|simp) _|refine bS ?_ (by first|omega|simp;omega|simp) _|refine bT ?_ (by assumption) (by first|omega|simp;omega|simp)))
  have X1 : Sp8 w2 w.heap.size 0 ⟨f, p, z, an, aw, mn, mw, s⟩ A ca M cm := by constructor <;> exact (hc_w2 _ _ (by first|omega|simp;omega|simp)).trans (by simp [go_sem])
  have Y1 : Sp8 w2 (w.heap.size + 1) 0 sd0 none 0 none 0 := by constructor <;> exact (hc_w2 _ _ (by first|omega|simp;omega|simp)).trans (by simp [go_sem, sd0])
  have z3 : w2.frozen? ⟨w.heap.size, 3, none⟩ = false := (hf_w2 _ _ (by first|omega|simp;omega|simp)).trans (by simp [go_sem])
  have z4 : w2.frozen? ⟨w.heap.size, 4, none⟩ = false := (hf_w2 _ _ (by first|omega|simp;omega|simp)).trans (by simp [go_sem])
  have z5 : w2.frozen? ⟨w.heap.size, 5, none⟩ = false := (hf_w2 _ _ (by first|omega|simp;omega|simp)).trans (by simp [go_sem])
  have z6 : w2.frozen? ⟨w.heap.size, 6, none⟩ = false := (hf_w2 _ _ (by first|omega|simp;omega|simp)).trans (by simp [go_sem])
  have y0 : ∀ i, w2.frozen? ⟨w.heap.size + 1, i, none⟩ = false := fun i => (hf_w2 _ _ (by first|omega|simp;omega|simp)).trans (by simp [go_sem])
  obtain ⟨x0, x1, x2, x3, x4, x5, x6, x7⟩ := id X1
  simp only [Nat.zero_add] at x0 x1 x2 x3 x4 x5 x6 x7
  have rM2 := hM.later b2
  clear hc_w2 hf_w2
  go_wp2_with fail
  generalize hWS : (w2.setCell ⟨w.heap.size, 3, none⟩ (.int .i64 an)).setCell ⟨w.heap.size, 4, none⟩ (.slice A2 aw.length c2) = wS at *
  have hzS : wS.heap.size = w2.heap.size := by rw [← hWS]; simp
  have X2 : Sp8 wS w.heap.size 0 ⟨f, p, z, an, aw, mn, mw, s⟩ A2 c2 M cm := by rw [← hWS]; constructor <;> simp [go_sem, x0, x1, x2, x3, x4, x5, x6, x7]
  have Y2 : Sp8 wS (w.heap.size + 1) 0 sd0 none 0 none 0 := by rw [← hWS]; exact (Y1.far (p := ⟨w.heap.size, 3, none⟩) (by simp) _).far (p := ⟨w.heap.size, 4, none⟩) (by simp) _
  have oA : Own wS (w.heap.size + 2) A2 aw := by rw [← hWS]; exact ((o2.mono (by first|omega|simp;omega|simp)).far (p := ⟨w.heap.size, 3, none⟩) (.inl (by show w.heap.size < _; omega)) _).far (p := ⟨w.heap.size, 4, none⟩) (.inl (by show w.heap.size < _; omega)) _
  have bS : Below w.heap.size w wS := by rw [← hWS]; exact (b2.setCell (p := ⟨w.heap.size, 3, none⟩) (by first|omega|simp;omega|simp) _).setCell (p := ⟨w.heap.size, 4, none⟩) (by first|omega|simp;omega|simp) _
  have rMS : Row wS wS.heap.size M mw := hM.later bS
  have t3 : ∀ i, wS.frozen? ⟨w.heap.size + 1, i, none⟩ = false := fun i => by rw [← hWS, World.frozen?_setCell, World.frozen?_setCell]; exact y0 i
  have t5 : wS.frozen? ⟨w.heap.size, 5, none⟩ = false := by rw [← hWS, World.frozen?_setCell, World.frozen?_setCell]; exact z5
  have t6 : wS.frozen? ⟨w.heap.size, 6, none⟩ = false := by rw [← hWS, World.frozen?_setCell, World.frozen?_setCell]; exact z6
  clear hWS X1 Y1 z3 z4 z5 z6 y0 o2 rM2 x0 x1 x2 x3 x4 x5 x6 x7 b2
  go_at_call 114
  refine (HM.out _ rMS).mono ?_
  rintro e w4 ⟨A4, c4, rfl, o4, hb_w4⟩
  have hs4 := hb_w4.size
  have b4 : Below w.heap.size w w4 := bS.trans (hb_w4.mono (by omega))
  have X3 := X2.below hb_w4 (by omega)
  have Y3 := Y2.below hb_w4 (by omega)
  have oA4 := oA.later hb_w4
  have u5 : w4.frozen? ⟨w.heap.size, 5, none⟩ = false := ((bcell hb_w4).2 _ _ (by omega)).trans t5
  have u6 : w4.frozen? ⟨w.heap.size, 6, none⟩ = false := ((bcell hb_w4).2 _ _ (by omega)).trans t6
  have u1 : ∀ i, w4.frozen? ⟨w.heap.size + 1, i, none⟩ = false := fun i => ((bcell hb_w4).2 _ _ (by omega)).trans (t3 i)
  have v0 := u1 0
  have v1 := u1 1
  have v2 := u1 2
  have v3 := u1 3
  have v4 := u1 4
  have v5 := u1 5
  have v6 := u1 6
  have v7 := u1 7
  obtain ⟨x0, x1, x2, x3, x4, x5, x6, x7⟩ := id X3
  simp only [Nat.zero_add] at x0 x1 x2 x3 x4 x5 x6 x7
  obtain ⟨m0, m1, m2, m3, m4, m5, m6, m7⟩ := id Y3
  simp only [Nat.zero_add, sd0, List.length_nil] at m0 m1 m2 m3 m4 m5 m6 m7
  clear X2 Y2 oA bS rMS t3 t5 t6 u1
  go_wp2
  have Y4 := (Y3.far (p := ⟨w.heap.size, 5, none⟩) (by simp) (.int .i64 mn)).far (p := ⟨w.heap.size, 6, none⟩) (by simp) (.slice A4 mw.length c4)
  have Y5 := Y4.set (d' := ⟨f, p, z, an, aw, mn, mw, s⟩) (A' := A2) (ca' := c2) (M' := A4) (cm' := c4)
  refine bodyPost_ret (res_span1 rfl rfl Y5) rfl ⟨A2, c2, A4, c4, rfl, ?_, ?_, ?_⟩
  · refine Own.mono (B := w.heap.size + 2) ?_ (by first|omega|simp;omega|simp)
    iterate 10 (refine Own.far ?_ (.inl (by simp)) _)
    exact oA4
  · refine Own.mono (B := w.heap.size + 2) ?_ (by first|omega|simp;omega|simp)
    iterate 10 (refine Own.far ?_ (.inl (by simp)) _)
    exact o4.mono (by omega)
  · iterate 10 (refine Below.setCell ?_ (by simp) _)
    exact b4
end
end Go.Proofs.YtogfbdeplogcfaaGreatDoor
namespace Go.Proofs.YtogfbdeplogcfaaGreatDoor
open Go.RowKit

structure CopX (w : World) (B : Nat) (A : Option Addr) (n cap : Nat) (vs : List Sv) : Prop where
  len : vs.length = n
  row_ : w.ownsRow B 65 8 (.slice A n cap) n (flat8 vs)
  words : ∀ v ∈ vs, Own w B v.A v.d.aw ∧ Own w B v.M v.d.mw
  apart : ∀ v ∈ vs, ∀ g, A = some ⟨g, 0, none⟩ → (0 < v.d.aw.length → v.A ≠ some ⟨g, 0, none⟩) ∧ (0 < v.d.mw.length → v.M ≠ some ⟨g, 0, none⟩)
theorem CopX.srow {w : World} {B n cap : Nat} {A : Option Addr} {vs : List Sv} (h : CopX w B A n cap vs) : SRow w w.heap.size A (sdsOf vs) :=
  ⟨fun hl => by
    have hn : 0 < n := by rw [← h.len]; simpa [sdsOf] using hl
    obtain ⟨_, ⟨h1, h2⟩ | ⟨g, cap', cur, e, _⟩⟩ := id h.row_
    · omega
    · injection e with e1 _ e3
      subst e1
      have hr := h.row_
      refine ⟨g, 0, rfl, (hr.lt g rfl).2, fun i hi => ?_⟩
      have hi' : i < vs.length := by simpa [sdsOf] using hi
      have hw := h.words vs[i] (List.getElem_mem hi')
      rw [nth_sds vs i hi']
      exact ⟨vs[i].A, vs[i].ca, vs[i].M, vs[i].cm, sp8_of_owns hr h.len i (by rw [← h.len]; exact hi'), hw.1.row, hw.2.row⟩⟩
theorem CopX.later {w w' : World} {B n cap : Nat} {A : Option Addr} {vs : List Sv} (h : CopX w B A n cap vs) (hb : Below w.heap.size w w') : CopX w' B A n cap vs :=
  ⟨h.len, owns_laterN h.row_ hb, fun v hv => ⟨(h.words v hv).1.later hb, (h.words v hv).2.later hb⟩, h.apart⟩
theorem CopX.nil (w : World) (B : Nat) : CopX w B none 0 0 [] := ⟨rfl, World.ownsRow_nil _ _ _ _, fun v hv => (by cases hv), fun v hv => (by cases hv)⟩
theorem CopX.snoc {w w' : World} {B n cap cap' g7 : Nat} {Ac : Option Addr} {vs : List Sv} {v : Sv} (h : CopX w B Ac n cap vs) (hv1 : Own w B v.A v.d.aw) (hv2 : Own w B v.M v.d.mw)
    (hvn : ∀ g, Ac = some ⟨g, 0, none⟩ → (0 < v.d.aw.length → v.A ≠ some ⟨g, 0, none⟩) ∧ (0 < v.d.mw.length → v.M ≠ some ⟨g, 0, none⟩))
    (hown : w'.ownsRow B 65 8 (.slice (some ⟨g7, 0, none⟩) (n + 1) cap') (n + 1) (flat8 vs ++ cells8 v)) (hg : w.grownBy w' (Value.slice Ac n cap).ownBlock) (hat : (Value.slice Ac n cap).ownBlock = some g7 ∨ w.heap.size ≤ g7) : CopX w' B (some ⟨g7, 0, none⟩) (n + 1) cap' (vs ++ [v]) := by
  have hall : ∀ u ∈ vs ++ [v], (Own w B u.A u.d.aw ∧ Own w B u.M u.d.mw) ∧ ∀ g, Ac = some ⟨g, 0, none⟩ → (0 < u.d.aw.length → u.A ≠ some ⟨g, 0, none⟩) ∧ (0 < u.d.mw.length → u.M ≠ some ⟨g, 0, none⟩) := fun u hu => by
    rw [List.mem_append, List.mem_singleton] at hu
    rcases hu with hu | rfl
    · exact ⟨h.words u hu, h.apart u hu⟩
    · exact ⟨⟨hv1, hv2⟩, hvn⟩
  have hform : ∀ g, (Value.slice Ac n cap).ownBlock = some g → Ac = some ⟨g, 0, none⟩ := fun g hgg => by
    obtain ⟨_, ⟨e, _⟩ | ⟨g', c', cur, e, _⟩⟩ := id h.row_
    · injection e with e
      subst e
      cases hgg
    · injection e with e
      subst e
      injection hgg with hgg
      have : g' = g := hgg
      rw [this]
  have key : ∀ (A : Option Addr) (ws : List Nat), Own w B A ws → (∀ g, Ac = some ⟨g, 0, none⟩ → 0 < ws.length → A ≠ some ⟨g, 0, none⟩) → Own w' B A ws ∧ (0 < ws.length → A ≠ some ⟨g7, 0, none⟩) := fun A ws ho hn => by
    refine ⟨ho.grown hg (fun hl g e e2 => hn g (hform g e2.symm) hl e), fun hl e => ?_⟩
    rcases hat with hat | hat
    · exact hn g7 (hform g7 hat) hl e
    · obtain ⟨q, e2, _, hq, _⟩ := ho.at_ hl
      rw [e] at e2
      injection e2 with e2
      injection e2 with e2
      omega
  refine ⟨by rw [List.length_append, h.len]; rfl, by rw [flat8_app]; simpa [flat8] using hown, fun u hu => ?_, fun u hu g e => ?_⟩
  · obtain ⟨⟨g1, g2⟩, g3⟩ := hall u hu
    exact ⟨(key _ _ g1 fun g e hl => (g3 g e).1 hl).1, (key _ _ g2 fun g e hl => (g3 g e).2 hl).1⟩
  · injection e with e
    injection e with e
    subst e
    obtain ⟨⟨g1, g2⟩, g3⟩ := hall u hu
    exact ⟨(key _ _ g1 fun g e hl => (g3 g e).1 hl).2, (key _ _ g2 fun g e hl => (g3 g e).2 hl).2⟩
theorem nth_mem (l : List Sd) (i : Nat) (h : i < l.length) : nth l i ∈ l := by
  unfold nth
  rw [List.getD_eq_getElem?_getD, List.getElem?_eq_getElem h]
  exact List.getElem_mem h
theorem take_nth (l : List Sd) (i : Nat) (h : i < l.length) : l.take (i + 1) = l.take i ++ [nth l i] := by
  unfold nth
  rw [List.getD_eq_getElem?_getD, List.getElem?_eq_getElem h, List.take_add_one, List.getElem?_eq_getElem h]
  rfl
section
variable {w : World} {A : Option Addr} {l : List Sd} (cap : Nat)
set_option maxHeartbeats 4000000 in
theorem xcopyL_any (hr : SRow w w.heap.size A l) (hl : l.length ≤ 1466015503658) (hw : WordsLe l) :
    Calls Tryz.prog 51 #[.slice A l.length cap] w fun e w' => ∃ A' c' vs, e = .returned (.slice A' l.length c') ∧ sdsOf vs = l ∧ CopX w' w.heap.size A' l.length c' vs ∧ Below w.heap.size w w' := by
  obtain ⟨i0, hi, hz0, hz1, hz2⟩ := info_parts info_sp
  have HW := Lib.hid hw
  clear hw
  go_enter Tryz.func51, Tryz.ntmps51
  go_wp2_with fail
  go_loopw [3, 8] (fun c ii wr => ∃ k : Nat, ii = .int .i64 (k : Nat) ∧ k ≤ l.length ∧ ∃ (Ac : Option Addr) (capc : Nat) (vs : List Sv), c = .slice Ac k capc ∧ Hid (sdsOf vs = l.take k) ∧ CopX wr w.heap.size Ac k capc vs ∧ w.heap.size ≤ wr.heap.size ∧ Below w.heap.size w wr) (fun _ ii _ => l.length - (intOf ii).toNat)
  case atStart => exact ⟨0, rfl, Nat.zero_le _, none, 0, [], rfl, Lib.hid rfl, CopX.nil _ _, (by first|omega|simp;omega|simp), (by repeat (first|exact bR _ _|assumption|refine bN ?_ _|refine bD ?_|refine bA ?_ (by first|omega|simp;omega|simp) _|refine bS ?_ (by first|omega|simp;omega|simp) _|refine bT ?_ (by assumption) (by first|omega|simp;omega|simp)))⟩
  case round =>
    obtain ⟨k, rfl, hk, Ac, capc, vs, rfl, HS, oC, hsz, hb_wr⟩ := hrel
    have hsr := hb_wr.size
    by_cases hlt : k < l.length
    · obtain ⟨b, off, hAe, hbb, hc⟩ := (hr.later hb_wr).at_ (by omega)
      obtain ⟨Aa, ca, Am, cm, c8, ra, rm⟩ := hc k hlt
      obtain ⟨wa, wm⟩ := HW.out _ (nth_mem l k hlt)
      have hnx := take_nth l k hlt
      obtain ⟨d, hd⟩ : ∃ d, Hid (nth l k = d) := ⟨_, rfl⟩
      rw [hd.out] at c8 ra rm wa wm hnx
      have HNX := Lib.hid hnx
      obtain ⟨c0, c1, c2, c3, c4, c5, c6, c7⟩ := id c8
      have i1 : (k : Int) < (l.length : Int) := by omega
      have i2 : (0 : Int) ≤ (k : Int) := by omega
      have HO := Lib.hid fun (w : World) ha hm => xone_any (w := w) (A := Aa) (M := Am) ca cm d ha hm wa wm
      unfold OneS at HO
      subst hAe
      clear hc hnx c8 wa wm
      obtain ⟨f, p, z, an, aw, mn, mw, s⟩ := d
      unfold spv at HO
      simp only at *
      go_wp2_with fail
      go_at_call 115
      refine (HO.out _ (ra.later (by repeat (first|exact bR _ _|assumption|refine bN ?_ _|refine bD ?_|refine bA ?_ (by first|omega|simp;omega|simp) _|refine bS ?_ (by first|omega|simp;omega|simp) _|refine bT ?_ (by assumption) (by first|omega|simp;omega|simp)))) (rm.later (by repeat (first|exact bR _ _|assumption|refine bN ?_ _|refine bD ?_|refine bA ?_ (by first|omega|simp;omega|simp) _|refine bS ?_ (by first|omega|simp;omega|simp) _|refine bT ?_ (by assumption) (by first|omega|simp;omega|simp))))).mono ?_
      rintro e w5 ⟨A5, C5, M5, D5, rfl, o5, o5', hb_w5⟩
      have hs5 := hb_w5.size
      (try simp only [zA] at hs5)
      have b55 : Below wr.heap.size wr w5 := below_trans ((Below.refl wr.heap.size wr).alloc (Nat.le_refl _) _) hb_w5 (by simp)
      have b5 : Below w.heap.size w w5 := hb_wr.trans (b55.mono hsz)
      have oC5 := oC.later b55
      have oA : Own w5 w.heap.size A5 aw := o5.mono (by first|omega|simp;omega|simp)
      have oM : Own w5 w.heap.size M5 mw := o5'.mono (by first|omega|simp;omega|simp)
      have hvn : ∀ g, Ac = some ⟨g, 0, none⟩ → (0 < aw.length → A5 ≠ some ⟨g, 0, none⟩) ∧ (0 < mw.length → M5 ≠ some ⟨g, 0, none⟩) := fun g e => by
        have hg : g < wr.heap.size := (oC.row_.lt g (by rw [e]; rfl)).2
        have hwr : wr.heap.size ≤ (wr.alloc (.cells #[.int .i64 f, .int .i64 p, .int .i64 z, .int .i64 an, .slice Aa aw.length ca, .int .i64 mn, .slice Am mw.length cm, .bool s] 65)).heap.size := by simp
        refine ⟨fun hl e2 => ?_, fun hl e2 => ?_⟩
        · obtain ⟨q, e3, hq, _⟩ := o5.at_ hl
          rw [e2] at e3
          injection e3 with e3
          injection e3 with e3
          omega
        · obtain ⟨q, e3, hq, _⟩ := o5'.at_ hl
          rw [e2] at e3
          injection e3 with e3
          injection e3 with e3
          omega
      have HSN := Lib.hid fun (w6 w7 : World) (g7 cap7 : Nat) (hb : Below w5.heap.size w5 w6) h1 h2 h3 => CopX.snoc (w := w6) (w' := w7) (g7 := g7) (cap' := cap7) (v := ⟨⟨f, p, z, an, aw, mn, mw, s⟩, A5, C5, M5, D5⟩) (oC5.later hb) (oA.later hb) (oM.later hb) hvn h1 h2 h3
      have oR := oC5.row_
      clear o5 o5' oC oA oM hvn ra rm c0 c1 c2 c3 c4 c5 c6 c7 oC5
      go_wp2_with (at_builtin; refine wpList_append_lies _ ?_ (.tmp 12) (.tmp 15) 29 ?_ w.heap.size 65 i0 _ 8 96 Tryz.underlying29 hi hz0 hz1 hz2 rfl (by omega) (.slice Ac k capc) k (flat8 vs) ?_ (oR.alloc _) ⟨w5.heap.size, 0, none⟩ 1 1 (cells8 ⟨⟨f, p, z, an, aw, mn, mw, s⟩, A5, C5, M5, D5⟩) ?_ (by simp [cells8]) ?_ (by intro u hu; have := flat8_one [⟨⟨f, p, z, an, aw, mn, mw, s⟩, A5, C5, M5, D5⟩] u (by simpa [flat8] using hu); exact this) (by omega) (by unfold maxLen; omega) (by omega) (by first|omega|simp;omega|simp) _ rfl ?_; rfl; rfl; rfl; rfl; (intro j u hj; rw [add_form]; have hj8 : j < 8 := (by have := (List.getElem?_eq_some_iff.1 hj).1; simpa [cells8] using this); have hg := heap_alloc_new w5 (.cells #[.int .i64 f, .int .i64 p, .int .i64 z, .int .i64 an, .slice A5 aw.length C5, .int .i64 mn, .slice M5 mw.length D5, .bool s] 65); rw [cell_of_row _ _ _ _ _ _ hg, Nat.zero_add, ← hj]; simp [cells8]); intro g cap7 w7 hown7 hg7 hat7 hlt7; have hb_w7 : Below w.heap.size _ w7 := (Below.refl _ _).grown hg7 (by first|omega|simp;omega|simp) (fun b hb => oR.lt b hb |>.1); have hs7 := hb_w7.size; (try simp only [zA] at hs7))
      go_roundw
      case rel =>
        exact ⟨k + 1, by go_num, by omega, some ⟨g, 0, none⟩, cap7, vs ++ [⟨⟨f, p, z, an, aw, mn, mw, s⟩, A5, C5, M5, D5⟩], rfl, Lib.hid (by rw [sds_app, HS.out, HNX.out]; rfl), HSN.out _ _ _ _ (by repeat (first|exact bR _ _|assumption|refine bN ?_ _|refine bD ?_|refine bA ?_ (by first|omega|simp;omega|simp) _|refine bS ?_ (by first|omega|simp;omega|simp) _|refine bT ?_ (by assumption) (by first|omega|simp;omega|simp))) hown7 hg7 (by rcases hat7 with h | h; exact .inl h; exact .inr (by rw [h]; exact Nat.le_refl _)), (by first|omega|simp;omega|simp), (by repeat (first|exact bR _ _|assumption|refine bN ?_ _|refine bD ?_|refine bA ?_ (by first|omega|simp;omega|simp) _|refine bS ?_ (by first|omega|simp;omega|simp) _|refine bT ?_ (by assumption) (by first|omega|simp;omega|simp)))⟩
      case measure => simp [intOf]; omega
    · obtain rfl : k = l.length := by omega
      have hsd := HS.out
      rw [List.take_length] at hsd
      have HSD := Lib.hid hsd
      clear hsd
      go_wp2
      go_ret
      exact ⟨Ac, capc, vs, rfl, HSD.out, oC, hb_wr⟩
end
end Go.Proofs.YtogfbdeplogcfaaGreatDoor
namespace Go.Proofs.YtogfbdeplogcfaaGreatDoor
open Go.RowKit
set_option maxRecDepth 100000

theorem UnmE.ex (h : Hp) : ∃ h' y, UnmE h h' y := by
  by_cases hk : OkH h
  · by_cases h0 : SweptH h
    · exact ⟨_, _, .inr (.inr ⟨hk, h0, rfl, rfl⟩)⟩
    · exact ⟨_, _, .inr (.inl ⟨hk, h0, rfl, rfl⟩)⟩
  · exact ⟨_, _, .inl ⟨hk, rfl, rfl⟩⟩
theorem TrnE.ex (h : Hp) : ∃ h' y, TrnE h h' y := by
  by_cases hk : OkH h
  · by_cases h0 : SweptH h
    · by_cases h1 : ClosedH h
      · exact ⟨_, _, .inr (.inr (.inr ⟨hk, h0, h1, rfl, rfl⟩))⟩
      · exact ⟨_, _, .inr (.inr (.inl ⟨hk, h0, h1, rfl, rfl⟩))⟩
    · exact ⟨_, _, .inr (.inl ⟨hk, h0, rfl, rfl⟩)⟩
  · exact ⟨_, _, .inl ⟨hk, rfl, rfl⟩⟩
end Go.Proofs.YtogfbdeplogcfaaGreatDoor
namespace Go.Proofs.YtogfbdeplogcfaaGreatDoor
open Go.RowKit

section
variable {w : World} {A M C N : Option Addr} (ca cm cc cn : Nat)
theorem xsameone_self (d : Sd) (hA : Row w w.heap.size A d.aw) (hM : Row w w.heap.size M d.mw) (hC : Row w w.heap.size C d.aw) (hN : Row w w.heap.size N d.mw) (la : d.aw.length ≤ 17592186044416) (lm : d.mw.length ≤ 17592186044416) :
    Calls Tryz.prog 139 #[spv d A ca M cm, spv d C cc N cn] w fun e w' => e = .returned (.bool true) ∧ Below w.heap.size w w' := by
  have HA := Lib.hid fun (w : World) h1 h2 => same_ok d.an d.aw (by unfold maxLen; omega) w A C ca cc h1 h2
  have HM := Lib.hid fun (w : World) h1 h2 => same_ok d.mn d.mw (by unfold maxLen; omega) w M N cm cn h1 h2
  obtain ⟨f, p, z, an, aw, mn, mw, s⟩ := d
  unfold spv
  simp only at *
  have n1 : (f == f) = true := by simp
  have n2 : (p == p) = true := by simp
  have n3 : (z == z) = true := by simp
  have n4 : (s == s) = true := by simp
  go_enter Tryz.func139, Tryz.ntmps139
  go_wp2_with fail
  go_at_call 138
  refine (HA.out _ (hA.later (by repeat (first|exact bR _ _|assumption|refine bN ?_ _|refine bD ?_|refine bA ?_ (by first|omega|simp;omega|simp) _|refine bS ?_ (by first|omega|simp;omega|simp) _|refine bT ?_ (by assumption) (by first|omega|simp;omega|simp)))) (hC.later (by repeat (first|exact bR _ _|assumption|refine bN ?_ _|refine bD ?_|refine bA ?_ (by first|omega|simp;omega|simp) _|refine bS ?_ (by first|omega|simp;omega|simp) _|refine bT ?_ (by assumption) (by first|omega|simp;omega|simp))))).mono ?_
  rintro e w2 ⟨rfl, hb_w2⟩
  obtain ⟨hc_w2, hf_w2⟩ := bcell hb_w2
  have hs2 := hb_w2.size
  (try simp only [zA] at hs2)
  have b2 : Below w.heap.size w w2 := (by repeat (first|exact bR _ _|assumption|refine bN ?_ _|refine bD ?_|refine bA ?_ (by first|omega|simp;omega|simp) _|refine bS ?_ (by first|omega|simp;omega|simp) _|refine bT ?_ (by assumption) (by first|omega|simp;omega|simp)))
  have x0 : w2.cell? ⟨w.heap.size, 0, none⟩ = some (.int .i64 f) := (hc_w2 _ _ (by first|omega|simp;omega|simp)).trans (by simp [go_sem])
  have x1 : w2.cell? ⟨w.heap.size, 1, none⟩ = some (.int .i64 p) := (hc_w2 _ _ (by first|omega|simp;omega|simp)).trans (by simp [go_sem])
  have x2 : w2.cell? ⟨w.heap.size, 2, none⟩ = some (.int .i64 z) := (hc_w2 _ _ (by first|omega|simp;omega|simp)).trans (by simp [go_sem])
  have x3 : w2.cell? ⟨w.heap.size, 3, none⟩ = some (.int .i64 an) := (hc_w2 _ _ (by first|omega|simp;omega|simp)).trans (by simp [go_sem])
  have x4 : w2.cell? ⟨w.heap.size, 4, none⟩ = some (.slice A aw.length ca) := (hc_w2 _ _ (by first|omega|simp;omega|simp)).trans (by simp [go_sem])
  have x5 : w2.cell? ⟨w.heap.size, 5, none⟩ = some (.int .i64 mn) := (hc_w2 _ _ (by first|omega|simp;omega|simp)).trans (by simp [go_sem])
  have x6 : w2.cell? ⟨w.heap.size, 6, none⟩ = some (.slice M mw.length cm) := (hc_w2 _ _ (by first|omega|simp;omega|simp)).trans (by simp [go_sem])
  have x7 : w2.cell? ⟨w.heap.size, 7, none⟩ = some (.bool s) := (hc_w2 _ _ (by first|omega|simp;omega|simp)).trans (by simp [go_sem])
  have y0 : w2.cell? ⟨w.heap.size + 1, 0, none⟩ = some (.int .i64 f) := (hc_w2 _ _ (by first|omega|simp;omega|simp)).trans (by simp [go_sem])
  have y1 : w2.cell? ⟨w.heap.size + 1, 1, none⟩ = some (.int .i64 p) := (hc_w2 _ _ (by first|omega|simp;omega|simp)).trans (by simp [go_sem])
  have y2 : w2.cell? ⟨w.heap.size + 1, 2, none⟩ = some (.int .i64 z) := (hc_w2 _ _ (by first|omega|simp;omega|simp)).trans (by simp [go_sem])
  have y3 : w2.cell? ⟨w.heap.size + 1, 3, none⟩ = some (.int .i64 an) := (hc_w2 _ _ (by first|omega|simp;omega|simp)).trans (by simp [go_sem])
  have y4 : w2.cell? ⟨w.heap.size + 1, 4, none⟩ = some (.slice C aw.length cc) := (hc_w2 _ _ (by first|omega|simp;omega|simp)).trans (by simp [go_sem])
  have y5 : w2.cell? ⟨w.heap.size + 1, 5, none⟩ = some (.int .i64 mn) := (hc_w2 _ _ (by first|omega|simp;omega|simp)).trans (by simp [go_sem])
  have y6 : w2.cell? ⟨w.heap.size + 1, 6, none⟩ = some (.slice N mw.length cn) := (hc_w2 _ _ (by first|omega|simp;omega|simp)).trans (by simp [go_sem])
  have y7 : w2.cell? ⟨w.heap.size + 1, 7, none⟩ = some (.bool s) := (hc_w2 _ _ (by first|omega|simp;omega|simp)).trans (by simp [go_sem])
  clear hc_w2 hf_w2
  go_wp2_with fail
  go_at_call 138
  refine (HM.out _ (hM.later b2) (hN.later b2)).mono ?_
  rintro e w3 ⟨rfl, hb_w3⟩
  have hs3 := hb_w3.size
  have b3 : Below w.heap.size w w3 := b2.trans (hb_w3.mono (by omega))
  have X7 : w3.cell? ⟨w.heap.size, 7, none⟩ = some (.bool s) := (hb_w3.cell (p := ⟨w.heap.size, 7, none⟩) (by show w.heap.size < _; omega)).trans x7
  have Y7 : w3.cell? ⟨w.heap.size + 1, 7, none⟩ = some (.bool s) := (hb_w3.cell (p := ⟨w.heap.size + 1, 7, none⟩) (by show w.heap.size + 1 < _; omega)).trans y7
  go_wp2
  go_ret
  exact ⟨rfl, b3⟩
end
section
variable {w : World} {A C : Option Addr} {l : List Sd} (cap cc : Nat)
set_option maxHeartbeats 8000000 in
theorem xsameL_self (hr : SRow w w.heap.size A l) (hq : SRow w w.heap.size C l) (hl : l.length ≤ 17592186044416) (hw : WordsLe l) :
    Calls Tryz.prog 73 #[.slice A l.length cap, .slice C l.length cc] w fun e w' => e = .returned (.bool true) ∧ Below w.heap.size w w' := by
  have HW := Lib.hid hw
  clear hw
  go_enter Tryz.func73, Tryz.ntmps73
  go_wp2_with fail
  go_loopw [13] (fun ii wr => ∃ k : Nat, ii = .int .i64 (k : Nat) ∧ k ≤ l.length ∧ w.heap.size ≤ wr.heap.size ∧ Below w.heap.size w wr) (fun ii _ => l.length - (intOf ii).toNat)
  case atStart => exact ⟨0, rfl, Nat.zero_le _, (by first|omega|simp;omega|simp), (by repeat (first|exact bR _ _|assumption|refine bN ?_ _|refine bD ?_|refine bA ?_ (by first|omega|simp;omega|simp) _|refine bS ?_ (by first|omega|simp;omega|simp) _|refine bT ?_ (by assumption) (by first|omega|simp;omega|simp)))⟩
  case round =>
    obtain ⟨k, rfl, hk, hsz, hb_wr⟩ := hrel
    have hsr := hb_wr.size
    by_cases hlt : k < l.length
    · obtain ⟨b, off, hAe, hbb, hc⟩ := (hr.later hb_wr).at_ (by omega)
      obtain ⟨b', off', hCe, hbb', hc'⟩ := (hq.later hb_wr).at_ (by omega)
      obtain ⟨A, ca, M, cm, c8, ra, rm⟩ := hc k hlt
      obtain ⟨C, cc', N, cn, c8', rc, rn⟩ := hc' k hlt
      obtain ⟨wa, wm⟩ := HW.out _ (nth_mem l k hlt)
      generalize nth l k = d at *
      have HO := Lib.hid fun (w : World) h1 h2 h3 h4 => xsameone_self (w := w) (A := A) (M := M) (C := C) (N := N) ca cm cc' cn d h1 h2 h3 h4 wa wm
      obtain ⟨x0, x1, x2, x3, x4, x5, x6, x7⟩ := c8
      obtain ⟨y0, y1, y2, y3, y4, y5, y6, y7⟩ := c8'
      subst hAe hCe
      clear hc hc' wa wm
      obtain ⟨f, p, z, an, aw, mn, mw, s⟩ := d
      unfold spv at HO
      simp only at *
      have i1 : (k : Int) < (l.length : Int) := by omega
      have i2 : (0 : Int) ≤ (k : Int) := by omega
      go_wp2_with fail
      go_region_held3 (fun X : World => X.cell? ⟨b, off + k * 8, none⟩ = some (.int .i64 f) ∧ X.cell? ⟨b, off + k * 8 + 1, none⟩ = some (.int .i64 p) ∧ X.cell? ⟨b, off + k * 8 + 2, none⟩ = some (.int .i64 z) ∧ X.cell? ⟨b, off + k * 8 + 3, none⟩ = some (.int .i64 an) ∧ X.cell? ⟨b, off + k * 8 + 4, none⟩ = some (.slice A aw.length ca) ∧ X.cell? ⟨b, off + k * 8 + 5, none⟩ = some (.int .i64 mn) ∧ X.cell? ⟨b, off + k * 8 + 6, none⟩ = some (.slice M mw.length cm) ∧ X.cell? ⟨b, off + k * 8 + 7, none⟩ = some (.bool s) ∧ X.cell? ⟨b', off' + k * 8, none⟩ = some (.int .i64 f) ∧ X.cell? ⟨b', off' + k * 8 + 1, none⟩ = some (.int .i64 p) ∧ X.cell? ⟨b', off' + k * 8 + 2, none⟩ = some (.int .i64 z) ∧ X.cell? ⟨b', off' + k * 8 + 3, none⟩ = some (.int .i64 an) ∧ X.cell? ⟨b', off' + k * 8 + 4, none⟩ = some (.slice C aw.length cc') ∧ X.cell? ⟨b', off' + k * 8 + 5, none⟩ = some (.int .i64 mn) ∧ X.cell? ⟨b', off' + k * 8 + 6, none⟩ = some (.slice N mw.length cn) ∧ X.cell? ⟨b', off' + k * 8 + 7, none⟩ = some (.bool s))
        (refine ⟨?_, ?_, ?_, ?_, ?_, ?_, ?_, ?_, ?_, ?_, ?_, ?_, ?_, ?_, ?_, ?_⟩ <;> first | assumption | exact (World.cell?_alloc_lt _ _ ⟨_, _, _⟩ (by first|omega|simp;omega|simp)).trans (by assumption) | (simp [go_sem]; done))
        ((go_at_call 139; refine (HO.out _ (ra.later (by repeat (first|exact bR _ _|assumption|refine bN ?_ _|refine bD ?_|refine bA ?_ (by first|omega|simp;omega|simp) _|refine bS ?_ (by first|omega|simp;omega|simp) _|refine bT ?_ (by assumption) (by first|omega|simp;omega|simp)))) (rm.later (by repeat (first|exact bR _ _|assumption|refine bN ?_ _|refine bD ?_|refine bA ?_ (by first|omega|simp;omega|simp) _|refine bS ?_ (by first|omega|simp;omega|simp) _|refine bT ?_ (by assumption) (by first|omega|simp;omega|simp)))) (rc.later (by repeat (first|exact bR _ _|assumption|refine bN ?_ _|refine bD ?_|refine bA ?_ (by first|omega|simp;omega|simp) _|refine bS ?_ (by first|omega|simp;omega|simp) _|refine bT ?_ (by assumption) (by first|omega|simp;omega|simp)))) (rn.later (by repeat (first|exact bR _ _|assumption|refine bN ?_ _|refine bD ?_|refine bA ?_ (by first|omega|simp;omega|simp) _|refine bS ?_ (by first|omega|simp;omega|simp) _|refine bT ?_ (by assumption) (by first|omega|simp;omega|simp))))).mono ?_; rintro e w5 ⟨rfl, hb_w5⟩; have hs5 := hb_w5.size; (try simp only [zD, zN, zA] at hs5); have m0 : w5.cell? ⟨b, off + k * 8, none⟩ = some (.int .i64 f) := (hb_w5.cell (p := ⟨b, off + k * 8, none⟩) (by first|omega|simp;omega|simp)).trans (by first | assumption | (simp [go_sem]; done)); have m1 : w5.cell? ⟨b, off + k * 8 + 1, none⟩ = some (.int .i64 p) := (hb_w5.cell (p := ⟨b, off + k * 8 + 1, none⟩) (by first|omega|simp;omega|simp)).trans (by first | assumption | (simp [go_sem]; done)); have m2 : w5.cell? ⟨b, off + k * 8 + 2, none⟩ = some (.int .i64 z) := (hb_w5.cell (p := ⟨b, off + k * 8 + 2, none⟩) (by first|omega|simp;omega|simp)).trans (by first | assumption | (simp [go_sem]; done)); have m3 : w5.cell? ⟨b, off + k * 8 + 3, none⟩ = some (.int .i64 an) := (hb_w5.cell (p := ⟨b, off + k * 8 + 3, none⟩) (by first|omega|simp;omega|simp)).trans (by first | assumption | (simp [go_sem]; done)); have m4 : w5.cell? ⟨b, off + k * 8 + 4, none⟩ = some (.slice A aw.length ca) := (hb_w5.cell (p := ⟨b, off + k * 8 + 4, none⟩) (by first|omega|simp;omega|simp)).trans (by first | assumption | (simp [go_sem]; done)); have m5 : w5.cell? ⟨b, off + k * 8 + 5, none⟩ = some (.int .i64 mn) := (hb_w5.cell (p := ⟨b, off + k * 8 + 5, none⟩) (by first|omega|simp;omega|simp)).trans (by first | assumption | (simp [go_sem]; done)); have m6 : w5.cell? ⟨b, off + k * 8 + 6, none⟩ = some (.slice M mw.length cm) := (hb_w5.cell (p := ⟨b, off + k * 8 + 6, none⟩) (by first|omega|simp;omega|simp)).trans (by first | assumption | (simp [go_sem]; done)); have m7 : w5.cell? ⟨b, off + k * 8 + 7, none⟩ = some (.bool s) := (hb_w5.cell (p := ⟨b, off + k * 8 + 7, none⟩) (by first|omega|simp;omega|simp)).trans (by first | assumption | (simp [go_sem]; done)); have m8 : w5.cell? ⟨b', off' + k * 8, none⟩ = some (.int .i64 f) := (hb_w5.cell (p := ⟨b', off' + k * 8, none⟩) (by first|omega|simp;omega|simp)).trans (by first | assumption | (simp [go_sem]; done)); have m9 : w5.cell? ⟨b', off' + k * 8 + 1, none⟩ = some (.int .i64 p) := (hb_w5.cell (p := ⟨b', off' + k * 8 + 1, none⟩) (by first|omega|simp;omega|simp)).trans (by first | assumption | (simp [go_sem]; done)); have m10 : w5.cell? ⟨b', off' + k * 8 + 2, none⟩ = some (.int .i64 z) := (hb_w5.cell (p := ⟨b', off' + k * 8 + 2, none⟩) (by first|omega|simp;omega|simp)).trans (by first | assumption | (simp [go_sem]; done)); have m11 : w5.cell? ⟨b', off' + k * 8 + 3, none⟩ = some (.int .i64 an) := (hb_w5.cell (p := ⟨b', off' + k * 8 + 3, none⟩) (by first|omega|simp;omega|simp)).trans (by first | assumption | (simp [go_sem]; done)); have m12 : w5.cell? ⟨b', off' + k * 8 + 4, none⟩ = some (.slice C aw.length cc') := (hb_w5.cell (p := ⟨b', off' + k * 8 + 4, none⟩) (by first|omega|simp;omega|simp)).trans (by first | assumption | (simp [go_sem]; done)); have m13 : w5.cell? ⟨b', off' + k * 8 + 5, none⟩ = some (.int .i64 mn) := (hb_w5.cell (p := ⟨b', off' + k * 8 + 5, none⟩) (by first|omega|simp;omega|simp)).trans (by first | assumption | (simp [go_sem]; done)); have m14 : w5.cell? ⟨b', off' + k * 8 + 6, none⟩ = some (.slice N mw.length cn) := (hb_w5.cell (p := ⟨b', off' + k * 8 + 6, none⟩) (by first|omega|simp;omega|simp)).trans (by first | assumption | (simp [go_sem]; done)); have m15 : w5.cell? ⟨b', off' + k * 8 + 7, none⟩ = some (.bool s) := (hb_w5.cell (p := ⟨b', off' + k * 8 + 7, none⟩) (by first|omega|simp;omega|simp)).trans (by first | assumption | (simp [go_sem]; done))))
      all_goals
        go_wp2
        go_roundw
        case rel => exact ⟨k + 1, by go_num, by omega, (by first|omega|simp;omega|simp), (by repeat (first|exact bR _ _|assumption|refine bN ?_ _|refine bD ?_|refine bA ?_ (by first|omega|simp;omega|simp) _|refine bS ?_ (by first|omega|simp;omega|simp) _|refine bT ?_ (by assumption) (by first|omega|simp;omega|simp)))⟩
        case measure => simp [intOf]; omega
    · go_wp2
      go_ret
      exact ⟨rfl, hb_wr⟩
end
end Go.Proofs.YtogfbdeplogcfaaGreatDoor
namespace Go.Proofs.YtogfbdeplogcfaaGreatDoor
open Go.RowKit
set_option maxRecDepth 100000

theorem UnmE.ok {h : Hp} {h' : Hp} {y : Int} (hE : UnmE h h' y) (hk : OkH h) : OkH h' := by
  rcases hE with ⟨h1, _⟩ | ⟨_, _, rfl, _⟩ | ⟨_, hs, rfl, _⟩
  · exact absurd hk h1
  · exact hk
  · exact unmH_ok hk hs
theorem NewE.ok {h : Hp} {n : Int} {m : Nat} {bl : Bool} {h' : Hp} {a : Nat} {y : Int} (hE : NewE h n m bl h' a y) (hk : OkH h) : OkH h' := by
  by_cases h0 : y = 0
  · subst h0
    exact hE.made.2.1
  · rcases hE with ⟨h1, _⟩ | ⟨_, _, rfl, _⟩ | ⟨_, hsh, ⟨i, k, hR⟩, h2, _⟩ | ⟨_, _, h2, _⟩
    · exact absurd hk h1
    · exact hk
    · have hs : 0 ≤ n ∧ n ≤ 48 := by unfold Sh at hsh; omega
      rcases hR.does hk hs.1 hs.2 with ⟨_, _, _, _, rfl⟩ | ⟨h3, _⟩
      · exact hk
      · exact absurd h3 h2
    · exact absurd h2 h0
end Go.Proofs.YtogfbdeplogcfaaGreatDoor
namespace Go.Proofs.YtogfbdeplogcfaaGreatDoor
open Go.RowKit

theorem res_arena1 {fn : Func} {p : Tmp} (h : fn.results = #[.cell p 24]) {tmps : Array Value} {w : World} {g : Nat} {v0 : Value} (hp : tmps.getD p undef = .pointer (some ⟨g, 0, none⟩))
    (h0 : w.cell? ⟨g, 0, none⟩ = some v0) : (results fn tmps).run Tryz.prog w = .ok (.agg #[v0]) w := by
  have hp2 : tmps[p]?.getD undef = .pointer (some ⟨g, 0, none⟩) := by rw [← hp]; simp
  simp only [results, h]
  simp [go_sem, Result.andThen, h0, asAddr, hp2]
def CopiedA (w : World) (ws : List Nat) (e : Ending) (w' : World) : Prop :=
  ∃ A cap, e = .returned (.agg #[.slice A ws.length cap]) ∧ (Own w' w.heap.size A ws ∧ ws.length ≤ cap) ∧ Below w.heap.size w w'
theorem cap_of_owns {w : World} {B t s n cap g : Nat} {xs : List Value} (h : w.ownsRow B t s (.slice (some ⟨g, 0, none⟩) n cap) n xs) : n ≤ cap := by
  obtain ⟨_, ⟨h1, h2⟩ | ⟨g', cap', cur, e, _, _, h3, _⟩⟩ := h
  · injection h1 with h1; cases h1
  · injection e with e1 e2 e3
    omega

theorem acopy_nil (A : Option Addr) (cap : Nat) (w : World) :
    Calls Tryz.prog 49 #[.agg #[.slice A 0 cap]] w fun e w' => CopiedA w [] e w' := by
  cases A
  all_goals
    go_enter Tryz.func49, Tryz.ntmps49
    go_wp2
    exact bodyPost_ret (res_arena1 rfl rfl (g := w.heap.size + 1) (by simp [go_sem] <;> rfl)) rfl ⟨_, 0, rfl, ⟨⟨fun x hx => by simp at hx, fun h => by simp at h⟩, Nat.le_refl _⟩, (by repeat (first|exact bR _ _|assumption|refine bN ?_ _|refine bD ?_|refine bA ?_ (by first|omega|simp;omega|simp) _|refine bS ?_ (by first|omega|simp;omega|simp) _|refine bT ?_ (by assumption) (by first|omega|simp;omega|simp)))⟩
theorem acopy_some (b off cap : Nat) (ws : List Nat) (w : World) (hr : Row w w.heap.size (some ⟨b, off, none⟩) ws) (h0 : 0 < ws.length) (hm : ws.length ≤ 17592186044416) :
    Calls Tryz.prog 49 #[.agg #[.slice (some ⟨b, off, none⟩) ws.length cap]] w fun e w' => CopiedA w ws e w' := by
  obtain ⟨i0, hi, hz0, hz1, hz2⟩ := info_parts info_u64
  go_enter Tryz.func49, Tryz.ntmps49
  go_wp2_with (at_builtin; refine wpList_append_lies _ rfl (.tmp 3) (.tmp 5) 22 rfl (w.heap.size + 2) 32 i0 _ 1 8 Tryz.underlying22 hi hz0 hz1 hz2 rfl (by omega) (.slice (some ⟨w.heap.size + 1 + 1, 0, none⟩) 0 0) 0 [] (by simp [Act.eval, Act.put]) (own_empty w _ _ _ rfl) ⟨b, off, none⟩ ws.length cap (vals ws) (by simp [Act.eval, Act.put]) (by simp [vals]) (hr.src2 (by repeat (first|exact bR _ _|assumption|refine bN ?_ _|refine bD ?_|refine bA ?_ (by first|omega|simp;omega|simp) _|refine bS ?_ (by first|omega|simp;omega|simp) _|refine bT ?_ (by assumption) (by first|omega|simp;omega|simp)))) (vals_one ws) h0 (by unfold maxLen; omega) (by omega) (by simp) _ rfl ?_; intro g cap2 w2 hown2 hg2 hat2 hlt2; simp only [Nat.zero_add, List.nil_append] at hown2; have hb_w2 : Below (w.heap.size + 2) _ w2 := (Below.refl _ _).grown hg2 (by first|omega|simp;omega|simp) (fun k hk => (by simp [Value.ownBlock] at hk; omega)); obtain ⟨hc_w2, hf_w2⟩ := bcell hb_w2; have hz_w2_w_0 : w.heap.size < w2.heap.size := (by have hzz := hb_w2.size; (try simp only [zA, zS, zD, zN] at hzz); omega); have hz_w2_w_1 : w.heap.size + 1 < w2.heap.size := (by have hzz := hb_w2.size; (try simp only [zA, zS, zD, zN] at hzz); omega))
  all_goals
    have t2 : One w2 (w.heap.size + 1) (.slice none 0 0) := ⟨(hc_w2 _ _ (by first|omega|simp;omega|simp)).trans (by simp [go_sem]), (hf_w2 _ _ (by first|omega|simp;omega|simp)).trans (by simp [go_sem])⟩
    have ho := Own.of_owns hown2 hr.words
    exact bodyPost_ret (res_arena1 rfl rfl (t2.set_ _).c0) rfl ⟨_, cap2, rfl, ⟨(ho.far (.inl (by first|omega|simp;omega|simp)) _).mono (by first|omega|simp;omega|simp), cap_of_owns hown2⟩, (by repeat (first|exact bR _ _|assumption|refine bN ?_ _|refine bD ?_|refine bA ?_ (by first|omega|simp;omega|simp) _|refine bS ?_ (by first|omega|simp;omega|simp) _|refine bT ?_ (by assumption) (by first|omega|simp;omega|simp)))⟩
section
variable {A : Option Addr} {ws : List Nat} {w : World} (cap : Nat)
theorem acopy_any (hr : Row w w.heap.size A ws) (hm : ws.length ≤ 17592186044416) :
    Calls Tryz.prog 49 #[.agg #[.slice A ws.length cap]] w fun e w' => CopiedA w ws e w' := by
  by_cases h0 : 0 < ws.length
  · obtain ⟨b, off, rfl, _, _⟩ := hr.at_ h0
    exact acopy_some b off cap ws w hr h0 hm
  · obtain rfl : ws = [] := List.eq_nil_of_length_eq_zero (by omega)
    exact acopy_nil A cap w
end
end Go.Proofs.YtogfbdeplogcfaaGreatDoor
namespace Go.Proofs.YtogfbdeplogcfaaGreatDoor
open Go.RowKit

section
variable {n : Int} {A : Option Addr} {ws : List Nat} {w : World} (cap : Nat)
theorem rpcopy_any (hr : Row w w.heap.size A ws) (hm : ws.length ≤ 17592186044416) :
    Calls Tryz.prog 50 #[.agg #[.int .i64 n, .slice A ws.length cap]] w fun e w' => Copied w n ws e w' := by
  go_enter Tryz.func50, Tryz.ntmps50
  go_wp2_with (go_at_call 114; refine (copy_any _ _ (hr.later (by repeat (first|exact bR _ _|assumption|refine bN ?_ _|refine bD ?_|refine bA ?_ (by first|omega|simp;omega|simp) _|refine bS ?_ (by first|omega|simp;omega|simp) _|refine bT ?_ (by assumption) (by first|omega|simp;omega|simp)))) hm).mono ?_; rintro e w1 ⟨A1, cap1, rfl, ho1, hb_w1⟩; obtain ⟨hc_w1, hf_w1⟩ := bcell hb_w1; have hz_w1_w_0 : w.heap.size < w1.heap.size := (by have hzz := hb_w1.size; (try simp only [zA, zS, zD, zN] at hzz); omega); have hz_w1_w_1 : w.heap.size + 1 < w1.heap.size := (by have hzz := hb_w1.size; (try simp only [zA, zS, zD, zN] at hzz); omega))
  have k0 : w1.cell? ⟨w.heap.size + 1, 0, none⟩ = _ := (hc_w1 _ _ (by first|omega|simp;omega|simp)).trans (by simp [go_sem]; rfl)
  have k1 : w1.cell? ⟨w.heap.size + 1, 1, none⟩ = _ := (hc_w1 _ _ (by first|omega|simp;omega|simp)).trans (by simp [go_sem]; rfl)
  exact bodyPost_ret (res_pages1 rfl rfl (set_two _ _ k0 k1).1 (set_two _ _ k0 k1).2) rfl ⟨A1, cap1, rfl, (ho1.two (g := w.heap.size + 1) (by first|omega|simp;omega|simp)).mono (by first|omega|simp;omega|simp), (by repeat (first|exact bR _ _|assumption|refine bN ?_ _|refine bD ?_|refine bA ?_ (by first|omega|simp;omega|simp) _|refine bS ?_ (by first|omega|simp;omega|simp) _|refine bT ?_ (by assumption) (by first|omega|simp;omega|simp)))⟩
theorem rpsame_ok (hm : ws.length ≤ maxLen) (A' : Option Addr) (cap' : Nat) (hr : Row w w.heap.size A ws) (hr' : Row w w.heap.size A' ws) :
    Calls Tryz.prog 72 #[.agg #[.int .i64 n, .slice A ws.length cap], .agg #[.int .i64 n, .slice A' ws.length cap']] w fun e w' => e = .returned (.bool true) ∧ Below w.heap.size w w' := by
  go_enter Tryz.func72, Tryz.ntmps72
  go_wp2_with fail
  go_at_call 138
  refine (same_ok n ws hm _ _ _ _ _ (hr.later (by repeat (first|exact bR _ _|assumption|refine bN ?_ _|refine bD ?_|refine bA ?_ (by first|omega|simp;omega|simp) _|refine bS ?_ (by first|omega|simp;omega|simp) _|refine bT ?_ (by assumption) (by first|omega|simp;omega|simp)))) (hr'.later (by repeat (first|exact bR _ _|assumption|refine bN ?_ _|refine bD ?_|refine bA ?_ (by first|omega|simp;omega|simp) _|refine bS ?_ (by first|omega|simp;omega|simp) _|refine bT ?_ (by assumption) (by first|omega|simp;omega|simp))))).mono ?_
  rintro e w1 ⟨rfl, hb_w1⟩
  obtain ⟨hc_w1, hf_w1⟩ := bcell hb_w1; have hz_w1_w_0 : w.heap.size < w1.heap.size := (by have hzz := hb_w1.size; (try simp only [zA, zS, zD, zN] at hzz); omega); have hz_w1_w_1 : w.heap.size + 1 < w1.heap.size := (by have hzz := hb_w1.size; (try simp only [zA, zS, zD, zN] at hzz); omega); have hs_w1 := hb_w1.size; (try simp only [zA, zS, zD, zN] at hs_w1)
  go_wp2
  go_ret
  exact ⟨rfl, (by repeat (first|exact bR _ _|assumption|refine bN ?_ _|refine bD ?_|refine bA ?_ (by first|omega|simp;omega|simp) _|refine bS ?_ (by first|omega|simp;omega|simp) _|refine bT ?_ (by assumption) (by first|omega|simp;omega|simp)))⟩
end
end Go.Proofs.YtogfbdeplogcfaaGreatDoor
namespace Go.Proofs.YtogfbdeplogcfaaGreatDoor
open Go.RowKit
set_option maxRecDepth 100000

theorem HIn.lt {w : World} {b : Nat} {v : Hv} {h : Hp} (x : HIn w b v h) : b < w.heap.size := x.box.lt
section
variable {w : World} {v v' : Hv} {h : Hp}
set_option maxHeartbeats 1000000 in
theorem hsame_any (m : HM w w.heap.size v h) (m' : HM w w.heap.size v' h) (hs : Short h) :
    Calls Tryz.prog 20 #[hpV v h, hpV v' h] w fun e w' => e = .returned (.bool true) ∧ Below w.heap.size w w' := by
  have HA := Lib.hid fun (w : World) h1 h2 => asame_ok h.ws (by have := hs.ws; unfold maxLen; omega) w v.A v'.A v.ca v'.ca h1 h2
  have HU := Lib.hid fun (w : World) h1 h2 => rpsame_ok (n := h.n) (A := v.U) (ws := h.us) (w := w) v.cu (by have := hs.us; unfold maxLen; omega) v'.U v'.cu h1 h2
  have HV := Lib.hid fun (w : World) h1 h2 => xsameL_self (w := w) (A := v.V) (C := v'.V) (l := h.l) v.cv v'.cv h1 h2 (by have := hs.l; omega) hs.each
  have hx := HIn.new m 31
  have hx1 := hx.alloc (.cells #[.slice v'.A h.ws.length v'.ca, .int .i64 h.n, .slice v'.U h.us.length v'.cu, .slice v'.V h.l.length v'.cv] 31)
  have hm1 := m'.later ((Below.refl _ _).alloc (Nat.le_refl _) (.cells #[.slice v.A h.ws.length v.ca, .int .i64 h.n, .slice v.U h.us.length v.cu, .slice v.V h.l.length v.cv] 31))
  have hy1 := HIn.new hm1 31
  rw [World.size_alloc] at hy1
  clear hx hm1
  unfold hpV hpv
  go_enter Tryz.func20, Tryz.ntmps20
  go_wp2_with fail
  go_at_call 71
  refine (HA.out _ (by exact hx1.m.a) (by exact hy1.m.a)).mono ?_
  rintro e w1 ⟨rfl, hb_w1⟩
  have b1 : Below w.heap.size w w1 := (by repeat (first|exact bR _ _|assumption|refine bN ?_ _|refine bD ?_|refine bA ?_ (by first|omega|simp;omega|simp) _|refine bS ?_ (by first|omega|simp;omega|simp) _|refine bT ?_ (by assumption) (by first|omega|simp;omega|simp)))
  have hx2 := hx1.later hb_w1
  have hy2 := hy1.later hb_w1
  obtain ⟨c0, c1, c2, c3, f0, f1, f2, f3⟩ := id hx2.box
  obtain ⟨d0, d1, d2, d3, g0, g1, g2, g3⟩ := id hy2.box
  go_wp2_with fail
  go_at_call 72
  refine (HU.out _ (by exact hx2.m.u) (by exact hy2.m.u)).mono ?_
  rintro e w2 ⟨rfl, hb_w2⟩
  have b2 : Below w.heap.size w w2 := b1.trans (hb_w2.mono b1.size)
  have hx3 := hx2.later hb_w2
  have hy3 := hy2.later hb_w2
  clear c0 c1 c2 c3 f0 f1 f2 f3 d0 d1 d2 d3 g0 g1 g2 g3
  obtain ⟨c0, c1, c2, c3, f0, f1, f2, f3⟩ := id hx3.box
  obtain ⟨d0, d1, d2, d3, g0, g1, g2, g3⟩ := id hy3.box
  go_wp2_with fail
  go_at_call 73
  refine (HV.out _ (by exact hx3.m.v) (by exact hy3.m.v)).mono ?_
  rintro e w3 ⟨rfl, hb_w3⟩
  have b3 : Below w.heap.size w w3 := b2.trans (hb_w3.mono b2.size)
  go_wp2
  go_ret
  exact ⟨rfl, b3⟩
end
end Go.Proofs.YtogfbdeplogcfaaGreatDoor
namespace Go.Proofs.YtogfbdeplogcfaaGreatDoor
open Go.RowKit
set_option maxRecDepth 100000

theorem CopX.far {w : World} {B n cap : Nat} {A : Option Addr} {vs : List Sv} (h : CopX w B A n cap vs) {p : Addr} (hp : p.block < B) (u : Value) : CopX (w.setCell p u) B A n cap vs :=
  ⟨h.len, ownsRow_far h.row_ hp u, fun v hv => ⟨(h.words v hv).1.far (.inl hp) u, (h.words v hv).2.far (.inl hp) u⟩, h.apart⟩
theorem res_hpc {fn : Func} {p : Tmp} (h : fn.results = #[.cell p 31]) {tmps : Array Value} {w : World} {g : Nat} {v0 v1 v2 v3 : Value} (hp : tmps.getD p undef = .pointer (some ⟨g, 0, none⟩)) (c : B4 w g v0 v1 v2 v3) :
    (results fn tmps).run Tryz.prog w = .ok (.agg #[v0, v1, v2, v3]) w := by
  have hp2 : tmps[p]?.getD undef = .pointer (some ⟨g, 0, none⟩) := by rw [← hp]; simp
  simp only [results, h]
  simp [go_sem, Result.andThen, c.c0, c.c1, c.c2, c.c3, asAddr, hp2]
section
variable {w : World} {v v' : Hv} {h : Hp}
set_option maxHeartbeats 4000000 in
theorem hcopy_any (m : HM w w.heap.size v h) (hs : Short h) :
    Calls Tryz.prog 14 #[hpV v h] w fun e w' => ∃ v', e = .returned (hpV v' h) ∧ HM w' w'.heap.size v' h ∧ Below w.heap.size w w' := by
  have HA := Lib.hid fun (w : World) hr => acopy_any (w := w) (A := v.A) (ws := h.ws) v.ca hr hs.ws
  have HU := Lib.hid fun (w : World) hr => rpcopy_any (w := w) (n := h.n) (A := v.U) (ws := h.us) v.cu hr hs.us
  have HV := Lib.hid fun (w : World) hr => xcopyL_any (w := w) (A := v.V) (l := h.l) v.cv hr hs.l hs.each
  unfold CopiedA at HA
  unfold Copied at HU
  have hA := m.a
  have hU := m.u
  have hV := m.v
  have hx0 := B4.new (w.alloc (.cells #[.slice v.A h.ws.length v.ca, .int .i64 h.n, .slice v.U h.us.length v.cu, .slice v.V h.l.length v.cv] 31)) (.slice none 0 0) (.int .i64 0) (.slice none 0 0) (.slice none 0 0) 31
  rw [World.size_alloc] at hx0
  have hy0 := (B4.new w (.slice v.A h.ws.length v.ca) (.int .i64 h.n) (.slice v.U h.us.length v.cu) (.slice v.V h.l.length v.cv) 31).later (Below.alloc (Below.refl _ _) (Nat.le_refl _) (.cells #[.slice none 0 0, .int .i64 0, .slice none 0 0, .slice none 0 0] 31))
  clear m hs
  unfold hpV hpv
  go_enter Tryz.func14, Tryz.ntmps14
  go_wp2_with fail
  refine wp_region_held_drew (S := (fun X : World => X.cell? ⟨w.heap.size, 0, none⟩ = some (.slice v.A h.ws.length v.ca) ∧ X.cell? ⟨w.heap.size, 1, none⟩ = some (.int .i64 h.n) ∧ X.cell? ⟨w.heap.size, 2, none⟩ = some (.slice v.U h.us.length v.cu) ∧ X.cell? ⟨w.heap.size, 3, none⟩ = some (.slice v.V h.l.length v.cv))) (by kernel_rfl) ?_ (fun hHeld => ?_)
  · (try dsimp only); refine ⟨?_, ?_, ?_, ?_⟩ <;> first | assumption | (simp [go_sem]; done) | exact (World.cell?_alloc_lt _ _ ⟨_, _, _⟩ (by first|omega|simp;omega|simp)).trans (by assumption)
  refine wpAnyH_take (i := 0) (v := ?_) rfl (by kernel_rfl) (by kernel_rfl) (by kernel_rfl) (fun _ _ _ h => h) (Or.inl ⟨by rfl, ?_⟩) (by assumption) ?_
  rotate_left
  · (intro w hSw; (try dsimp only at hSw); go_simp; first | done | with_reducible rfl)
  try simp only [Act.put, List.getElem_toArray, List.getElem_cons_zero, List.getElem_cons_succ, List.setIfInBounds_toArray, List.set_cons_zero, List.set_cons_succ]
  refine wpAnyH_take (i := 1) (v := ?_) rfl (by kernel_rfl) (by kernel_rfl) (by kernel_rfl) (fun _ _ _ h => h) (Or.inl ⟨by rfl, ?_⟩) (by assumption) ?_
  rotate_left
  · (intro w hSw; (try dsimp only at hSw); go_simp; first | done | with_reducible rfl)
  try simp only [Act.put, List.getElem_toArray, List.getElem_cons_zero, List.getElem_cons_succ, List.setIfInBounds_toArray, List.set_cons_zero, List.set_cons_succ]
  refine wpAnyH_take (i := 3) (v := ?_) rfl (by kernel_rfl) (by kernel_rfl) (by kernel_rfl) (fun _ _ _ h => h) (Or.inl ⟨by rfl, ?_⟩) (by assumption) ?_
  rotate_left
  · (intro w hSw; (try dsimp only at hSw); go_simp; first | done | with_reducible rfl)
  try simp only [Act.put, List.getElem_toArray, List.getElem_cons_zero, List.getElem_cons_succ, List.setIfInBounds_toArray, List.set_cons_zero, List.set_cons_succ]
  refine wpAnyH_take (i := 4) (v := ?_) rfl (by kernel_rfl) (by kernel_rfl) (by kernel_rfl) (fun _ _ _ h => h) (Or.inl ⟨by rfl, ?_⟩) (by assumption) ?_
  rotate_left
  · (intro w hSw; (try dsimp only at hSw); go_simp; first | done | with_reducible rfl)
  try simp only [Act.put, List.getElem_toArray, List.getElem_cons_zero, List.getElem_cons_succ, List.setIfInBounds_toArray, List.set_cons_zero, List.set_cons_succ]
  refine wpAnyH_take (i := 6) (v := ?_) rfl (by kernel_rfl) (by kernel_rfl) (by kernel_rfl) (fun _ _ _ h => h) (Or.inl ⟨by rfl, ?_⟩) (by assumption) ?_
  rotate_left
  · (intro w hSw; (try dsimp only at hSw); go_simp; first | done | with_reducible rfl)
  try simp only [Act.put, List.getElem_toArray, List.getElem_cons_zero, List.getElem_cons_succ, List.setIfInBounds_toArray, List.set_cons_zero, List.set_cons_succ]
  refine wpAnyH_take (i := 7) (v := ?_) rfl (by kernel_rfl) (by kernel_rfl) (by kernel_rfl) (fun _ _ _ h => h) (Or.inl ⟨by rfl, ?_⟩) (by assumption) ?_
  rotate_left
  · (intro w hSw; (try dsimp only at hSw); go_simp; first | done | with_reducible rfl)
  try simp only [Act.put, List.getElem_toArray, List.getElem_cons_zero, List.getElem_cons_succ, List.setIfInBounds_toArray, List.set_cons_zero, List.set_cons_succ]
  refine wpAnyH_ready (rs := [2]) (by kernel_rfl) (by simp) ?_
  refine AllReadyH.cons rfl (fun K hK => ?_) AllReadyH.nil
  try simp only [List.getElem_toArray, List.getElem_cons_zero, List.getElem_cons_succ]
  go_simp
  go_at_call 49
  refine (HA.out _ (hA.later (by repeat (first|exact bR _ _|assumption|refine bN ?_ _|refine bD ?_|refine bA ?_ (by first|omega|simp;omega|simp) _|refine bS ?_ (by first|omega|simp;omega|simp) _|refine bT ?_ (by assumption) (by first|omega|simp;omega|simp))))).mono ?_
  rintro e w1 ⟨A1, c1, rfl, ⟨o1, _⟩, hb_w1⟩
  have hs_w1 := hb_w1.size
  (try simp only [zD, zN, zA] at hs_w1)
  have k1 : Below w.heap.size w w1 := (by repeat (first|exact bR _ _|assumption|refine bN ?_ _|refine bD ?_|refine bA ?_ (by first|omega|simp;omega|simp) _|refine bS ?_ (by first|omega|simp;omega|simp) _|refine bT ?_ (by assumption) (by first|omega|simp;omega|simp)))
  have x1 := (hx0.later ((Below.refl _ _).drew)).later hb_w1
  have i1 := (hy0.later ((Below.refl _ _).drew)).later hb_w1
  have mw10 : w1.cell? ⟨w.heap.size, 0, none⟩ = some (.slice v.A h.ws.length v.ca) := (hb_w1.cell (p := ⟨w.heap.size, 0, none⟩) (by first|omega|simp;omega|simp)).trans (by first | assumption | (simp [go_sem]; done) | exact (World.cell?_alloc_lt _ _ ⟨_, _, _⟩ (by first|omega|simp;omega|simp)).trans (by assumption))
  have mw11 : w1.cell? ⟨w.heap.size, 1, none⟩ = some (.int .i64 h.n) := (hb_w1.cell (p := ⟨w.heap.size, 1, none⟩) (by first|omega|simp;omega|simp)).trans (by first | assumption | (simp [go_sem]; done) | exact (World.cell?_alloc_lt _ _ ⟨_, _, _⟩ (by first|omega|simp;omega|simp)).trans (by assumption))
  have mw12 : w1.cell? ⟨w.heap.size, 2, none⟩ = some (.slice v.U h.us.length v.cu) := (hb_w1.cell (p := ⟨w.heap.size, 2, none⟩) (by first|omega|simp;omega|simp)).trans (by first | assumption | (simp [go_sem]; done) | exact (World.cell?_alloc_lt _ _ ⟨_, _, _⟩ (by first|omega|simp;omega|simp)).trans (by assumption))
  have mw13 : w1.cell? ⟨w.heap.size, 3, none⟩ = some (.slice v.V h.l.length v.cv) := (hb_w1.cell (p := ⟨w.heap.size, 3, none⟩) (by first|omega|simp;omega|simp)).trans (by first | assumption | (simp [go_sem]; done) | exact (World.cell?_alloc_lt _ _ ⟨_, _, _⟩ (by first|omega|simp;omega|simp)).trans (by assumption))
  try go_wp2_with fail
  refine hK.out _ _ ?_ (fun hHeld => ?_)
  · (try dsimp only); refine ⟨?_, ?_, ?_, ?_⟩ <;> first | assumption | (simp [go_sem]; done) | exact (World.cell?_alloc_lt _ _ ⟨_, _, _⟩ (by first|omega|simp;omega|simp)).trans (by assumption)
  clear hK K
  try simp only [Act.put, List.getElem_toArray, List.getElem_cons_zero, List.getElem_cons_succ, List.setIfInBounds_toArray, List.set_cons_zero, List.set_cons_succ]
  refine wpAnyH_ready (rs := [5]) (by kernel_rfl) (by simp) ?_
  refine AllReadyH.cons rfl (fun K hK => ?_) AllReadyH.nil
  try simp only [List.getElem_toArray, List.getElem_cons_zero, List.getElem_cons_succ]
  go_simp
  go_at_call 50
  refine (HU.out _ (hU.later k1)).mono ?_
  rintro e w2 ⟨U2, c2, rfl, o2, hb_w2⟩
  have hs_w2 := hb_w2.size
  have k2 : Below w.heap.size w w2 := k1.trans (hb_w2.mono k1.size)
  have x2 := x1.later hb_w2
  have i2 := i1.later hb_w2
  have p2 := o1.later hb_w2
  have mw20 : w2.cell? ⟨w.heap.size, 0, none⟩ = some (.slice v.A h.ws.length v.ca) := (hb_w2.cell (p := ⟨w.heap.size, 0, none⟩) (by first|omega|simp;omega|simp)).trans (by first | assumption | (simp [go_sem]; done) | exact (World.cell?_alloc_lt _ _ ⟨_, _, _⟩ (by first|omega|simp;omega|simp)).trans (by assumption))
  have mw21 : w2.cell? ⟨w.heap.size, 1, none⟩ = some (.int .i64 h.n) := (hb_w2.cell (p := ⟨w.heap.size, 1, none⟩) (by first|omega|simp;omega|simp)).trans (by first | assumption | (simp [go_sem]; done) | exact (World.cell?_alloc_lt _ _ ⟨_, _, _⟩ (by first|omega|simp;omega|simp)).trans (by assumption))
  have mw22 : w2.cell? ⟨w.heap.size, 2, none⟩ = some (.slice v.U h.us.length v.cu) := (hb_w2.cell (p := ⟨w.heap.size, 2, none⟩) (by first|omega|simp;omega|simp)).trans (by first | assumption | (simp [go_sem]; done) | exact (World.cell?_alloc_lt _ _ ⟨_, _, _⟩ (by first|omega|simp;omega|simp)).trans (by assumption))
  have mw23 : w2.cell? ⟨w.heap.size, 3, none⟩ = some (.slice v.V h.l.length v.cv) := (hb_w2.cell (p := ⟨w.heap.size, 3, none⟩) (by first|omega|simp;omega|simp)).trans (by first | assumption | (simp [go_sem]; done) | exact (World.cell?_alloc_lt _ _ ⟨_, _, _⟩ (by first|omega|simp;omega|simp)).trans (by assumption))
  try go_wp2_with fail
  refine hK.out _ _ ?_ (fun hHeld => ?_)
  · (try dsimp only); refine ⟨?_, ?_, ?_, ?_⟩ <;> first | assumption | (simp [go_sem]; done) | exact (World.cell?_alloc_lt _ _ ⟨_, _, _⟩ (by first|omega|simp;omega|simp)).trans (by assumption)
  clear hK K
  try simp only [Act.put, List.getElem_toArray, List.getElem_cons_zero, List.getElem_cons_succ, List.setIfInBounds_toArray, List.set_cons_zero, List.set_cons_succ]
  refine wpAnyH_ready (rs := [8]) (by kernel_rfl) (by simp) ?_
  refine AllReadyH.cons rfl (fun K hK => ?_) AllReadyH.nil
  try simp only [List.getElem_toArray, List.getElem_cons_zero, List.getElem_cons_succ]
  go_simp
  go_at_call 51
  refine (HV.out _ (hV.later k2)).mono ?_
  rintro e w3 ⟨V3, c3, vs, rfl, hvs, o3, hb_w3⟩
  have hs_w3 := hb_w3.size
  have k3 : Below w.heap.size w w3 := k2.trans (hb_w3.mono k2.size)
  have x3 := x2.later hb_w3
  have i3 := i2.later hb_w3
  have p3 := p2.later hb_w3
  have q3 := o2.later hb_w3
  obtain ⟨y0, y1, y2, y3, z0, z1, z2, z3⟩ := id x3
  have mw30 : w3.cell? ⟨w.heap.size, 0, none⟩ = some (.slice v.A h.ws.length v.ca) := (hb_w3.cell (p := ⟨w.heap.size, 0, none⟩) (by first|omega|simp;omega|simp)).trans (by first | assumption | (simp [go_sem]; done) | exact (World.cell?_alloc_lt _ _ ⟨_, _, _⟩ (by first|omega|simp;omega|simp)).trans (by assumption))
  have mw31 : w3.cell? ⟨w.heap.size, 1, none⟩ = some (.int .i64 h.n) := (hb_w3.cell (p := ⟨w.heap.size, 1, none⟩) (by first|omega|simp;omega|simp)).trans (by first | assumption | (simp [go_sem]; done) | exact (World.cell?_alloc_lt _ _ ⟨_, _, _⟩ (by first|omega|simp;omega|simp)).trans (by assumption))
  have mw32 : w3.cell? ⟨w.heap.size, 2, none⟩ = some (.slice v.U h.us.length v.cu) := (hb_w3.cell (p := ⟨w.heap.size, 2, none⟩) (by first|omega|simp;omega|simp)).trans (by first | assumption | (simp [go_sem]; done) | exact (World.cell?_alloc_lt _ _ ⟨_, _, _⟩ (by first|omega|simp;omega|simp)).trans (by assumption))
  have mw33 : w3.cell? ⟨w.heap.size, 3, none⟩ = some (.slice v.V h.l.length v.cv) := (hb_w3.cell (p := ⟨w.heap.size, 3, none⟩) (by first|omega|simp;omega|simp)).trans (by first | assumption | (simp [go_sem]; done) | exact (World.cell?_alloc_lt _ _ ⟨_, _, _⟩ (by first|omega|simp;omega|simp)).trans (by assumption))
  try go_wp2_with fail
  refine hK.out _ _ ?_ (fun hHeld => ?_)
  · (try dsimp only); refine ⟨?_, ?_, ?_, ?_⟩ <;> first | assumption | (simp [go_sem]; done) | exact (World.cell?_alloc_lt _ _ ⟨_, _, _⟩ (by first|omega|simp;omega|simp)).trans (by assumption)
  clear hK K
  try simp only [Act.put, List.getElem_toArray, List.getElem_cons_zero, List.getElem_cons_succ, List.setIfInBounds_toArray, List.set_cons_zero, List.set_cons_succ]
  refine wpAnyH_take (i := 9) (v := ?_) rfl (by kernel_rfl) (by kernel_rfl) (by kernel_rfl) (fun _ _ _ h => h) (Or.inl ⟨by rfl, ?_⟩) (by assumption) ?_
  rotate_left
  · (intro w hSw; (try dsimp only at hSw); go_simp; first | done | with_reducible rfl)
  try simp only [Act.put, List.getElem_toArray, List.getElem_cons_zero, List.getElem_cons_succ, List.setIfInBounds_toArray, List.set_cons_zero, List.set_cons_succ]
  refine wpAnyH_ready (rs := [10]) (by kernel_rfl) (by simp) ?_
  refine AllReadyH.cons rfl (fun K hK => ?_) AllReadyH.nil
  try simp only [List.getElem_toArray, List.getElem_cons_zero, List.getElem_cons_succ]
  go_simp
  have I4 := ((((i3.far (p := ⟨w.heap.size + 1, 0, none⟩) (by show w.heap.size + 1 ≠ w.heap.size; omega) (.slice A1 h.ws.length c1)).far (p := ⟨w.heap.size + 1, 1, none⟩) (by show w.heap.size + 1 ≠ w.heap.size; omega) (.int .i64 h.n)).far (p := ⟨w.heap.size + 1, 2, none⟩) (by show w.heap.size + 1 ≠ w.heap.size; omega) (.slice U2 h.us.length c2)).far (p := ⟨w.heap.size + 1, 3, none⟩) (by show w.heap.size + 1 ≠ w.heap.size; omega) (.slice V3 h.l.length c3))
  obtain ⟨t0, t1, t2, t3, _, _, _, _⟩ := id I4
  refine hK.out _ _ ?_ (fun hHeld => ?_)
  · (try dsimp only); refine ⟨?_, ?_, ?_, ?_⟩ <;> first | assumption | (simp [go_sem]; done) | exact (World.cell?_alloc_lt _ _ ⟨_, _, _⟩ (by first|omega|simp;omega|simp)).trans (by assumption)
  clear hK K
  try simp only [Act.put, List.getElem_toArray, List.getElem_cons_zero, List.getElem_cons_succ, List.setIfInBounds_toArray, List.set_cons_zero, List.set_cons_succ]
  refine wpAnyH_done (by kernel_rfl) ?_ _
  have E0 := x3.all (.slice A1 h.ws.length c1) (.int .i64 h.n) (.slice U2 h.us.length c2) (.slice V3 h.l.length c3)
  have hb4 := below_all k3 (b := w.heap.size + 1) (by omega) (.slice A1 h.ws.length c1) (.int .i64 h.n) (.slice U2 h.us.length c2) (.slice V3 h.l.length c3)
  have o3' := ((((o3.far (p := ⟨w.heap.size + 1, 0, none⟩) (by show w.heap.size + 1 < _; omega) (.slice A1 h.ws.length c1)).far (p := ⟨w.heap.size + 1, 1, none⟩) (by show w.heap.size + 1 < _; omega) (.int .i64 h.n)).far (p := ⟨w.heap.size + 1, 2, none⟩) (by show w.heap.size + 1 < _; omega) (.slice U2 h.us.length c2)).far (p := ⟨w.heap.size + 1, 3, none⟩) (by show w.heap.size + 1 < _; omega) (.slice V3 h.l.length c3))
  have q3' := ((((q3.far (p := ⟨w.heap.size + 1, 0, none⟩) (.inl (by show w.heap.size + 1 < _; omega)) (.slice A1 h.ws.length c1)).far (p := ⟨w.heap.size + 1, 1, none⟩) (.inl (by show w.heap.size + 1 < _; omega)) (.int .i64 h.n)).far (p := ⟨w.heap.size + 1, 2, none⟩) (.inl (by show w.heap.size + 1 < _; omega)) (.slice U2 h.us.length c2)).far (p := ⟨w.heap.size + 1, 3, none⟩) (.inl (by show w.heap.size + 1 < _; omega)) (.slice V3 h.l.length c3))
  have p3' := ((((p3.far (p := ⟨w.heap.size + 1, 0, none⟩) (.inl (by simp only [zD, zA]; show w.heap.size + 1 < _; omega)) (.slice A1 h.ws.length c1)).far (p := ⟨w.heap.size + 1, 1, none⟩) (.inl (by simp only [zD, zA]; show w.heap.size + 1 < _; omega)) (.int .i64 h.n)).far (p := ⟨w.heap.size + 1, 2, none⟩) (.inl (by simp only [zD, zA]; show w.heap.size + 1 < _; omega)) (.slice U2 h.us.length c2)).far (p := ⟨w.heap.size + 1, 3, none⟩) (.inl (by simp only [zD, zA]; show w.heap.size + 1 < _; omega)) (.slice V3 h.l.length c3))
  have hm : HM _ _ ⟨A1, c1, U2, c2, V3, c3⟩ h := ⟨p3'.row, q3'.row, by have := o3'.srow; rw [hvs] at this; exact this⟩
  clear t0 t1 t2 t3 y0 y1 y2 y3 z0 z1 z2 z3
  go_wp2
  exact bodyPost_ret (res_hpc rfl rfl E0) rfl ⟨⟨A1, c1, U2, c2, V3, c3⟩, rfl, hm, hb4⟩
end
end Go.Proofs.YtogfbdeplogcfaaGreatDoor
namespace Go.Proofs.YtogfbdeplogcfaaGreatDoor
open Go.RowKit
set_option maxRecDepth 100000

structure KK (w w' : World) : Prop where
  u : ∀ g i t, w.cell? ⟨g, i, none⟩ = some (.int .u64 t) → ∃ t', w'.cell? ⟨g, i, none⟩ = some (.int .u64 t')
  b : ∀ g i t, w.cell? ⟨g, i, none⟩ = some (.bool t) → ∃ t', w'.cell? ⟨g, i, none⟩ = some (.bool t')
  s : ∀ g i A m c, w.cell? ⟨g, i, none⟩ = some (.slice A m c) → w'.cell? ⟨g, i, none⟩ = some (.slice A m c)
  n : ∀ g i t, w.cell? ⟨g, i, none⟩ = some (.int .i64 t) → w'.cell? ⟨g, i, none⟩ = some (.int .i64 t)
  f : ∀ g i, w.frozen? ⟨g, i, none⟩ = false → g < w.heap.size → w'.frozen? ⟨g, i, none⟩ = false
  size : w.heap.size ≤ w'.heap.size
theorem KK.refl (w : World) : KK w w := ⟨fun _ _ t h => ⟨t, h⟩, fun _ _ t h => ⟨t, h⟩, fun _ _ _ _ _ h => h, fun _ _ _ h => h, fun _ _ h _ => h, Nat.le_refl _⟩
theorem KK.trans {a b c : World} (h : KK a b) (k : KK b c) : KK a c :=
  ⟨fun g i t e => by obtain ⟨t', e'⟩ := h.u g i t e; exact k.u g i t' e', fun g i t e => by obtain ⟨t', e'⟩ := h.b g i t e; exact k.b g i t' e', fun g i A m cc e => k.s _ _ _ _ _ (h.s _ _ _ _ _ e), fun g i t e => k.n _ _ _ (h.n _ _ _ e), fun g i e hl => k.f _ _ (h.f _ _ e hl) (Nat.lt_of_lt_of_le hl h.size), Nat.le_trans h.size k.size⟩
theorem KK.later {w w' : World} (hb : Below w.heap.size w w') : KK w w' :=
  ⟨fun g i t h => ⟨t, ((bcell hb).1 _ _ (World.block_lt_of_cell? w _ h)).trans h⟩, fun g i t h => ⟨t, ((bcell hb).1 _ _ (World.block_lt_of_cell? w _ h)).trans h⟩, fun g i A m c h => ((bcell hb).1 _ _ (World.block_lt_of_cell? w _ h)).trans h, fun g i t h => ((bcell hb).1 _ _ (World.block_lt_of_cell? w _ h)).trans h, fun g i h hl => ((bcell hb).2 _ _ hl).trans h, hb.size⟩
theorem KK.setU {w : World} {g i : Nat} {t : Int} (hc : w.cell? ⟨g, i, none⟩ = some (.int .u64 t)) (x : Int) : KK w (w.setCell ⟨g, i, none⟩ (.int .u64 x)) := by
  refine ⟨fun g' i' t' h => ?_, fun g' i' t' h => ?_, fun g' i' A m c h => ?_, fun g' i' t' h => ?_, fun g' i' h _ => by rw [World.frozen?_setCell]; exact h, Nat.le_of_eq (World.size_setCell _ _ _).symm⟩
  all_goals
    by_cases e : (⟨g, i, none⟩ : Addr) = ⟨g', i', none⟩
  · rw [← e]; exact ⟨x, World.cell?_setCell_same _ _ _ hc⟩
  · exact ⟨t', (World.cell?_setCell_other _ _ _ _ e).trans h⟩
  · rw [← e, hc] at h; injection h with h; cases h
  · exact ⟨t', (World.cell?_setCell_other _ _ _ _ e).trans h⟩
  · rw [← e, hc] at h; injection h with h; cases h
  · exact (World.cell?_setCell_other _ _ _ _ e).trans h
  · rw [← e, hc] at h; injection h with h; cases h
  · exact (World.cell?_setCell_other _ _ _ _ e).trans h
theorem KK.setB {w : World} {g i : Nat} {t : Bool} (hc : w.cell? ⟨g, i, none⟩ = some (.bool t)) (x : Bool) : KK w (w.setCell ⟨g, i, none⟩ (.bool x)) := by
  refine ⟨fun g' i' t' h => ?_, fun g' i' t' h => ?_, fun g' i' A m c h => ?_, fun g' i' t' h => ?_, fun g' i' h _ => by rw [World.frozen?_setCell]; exact h, Nat.le_of_eq (World.size_setCell _ _ _).symm⟩
  all_goals
    by_cases e : (⟨g, i, none⟩ : Addr) = ⟨g', i', none⟩
  · rw [← e, hc] at h; injection h with h; cases h
  · exact ⟨t', (World.cell?_setCell_other _ _ _ _ e).trans h⟩
  · rw [← e]; exact ⟨x, World.cell?_setCell_same _ _ _ hc⟩
  · exact ⟨t', (World.cell?_setCell_other _ _ _ _ e).trans h⟩
  · rw [← e, hc] at h; injection h with h; cases h
  · exact (World.cell?_setCell_other _ _ _ _ e).trans h
  · rw [← e, hc] at h; injection h with h; cases h
  · exact (World.cell?_setCell_other _ _ _ _ e).trans h
def WdC (w : World) (B : Nat) (A : Option Addr) (n : Nat) : Prop := ∀ i, i < n → ∃ g t, A = some ⟨g, 0, none⟩ ∧ B ≤ g ∧ w.cell? ⟨g, i, none⟩ = some (.int .u64 t) ∧ w.frozen? ⟨g, i, none⟩ = false
theorem WdC.of_own {w : World} {B : Nat} {A : Option Addr} {ws : List Nat} (h : Own w B A ws) : WdC w B A ws.length := by
  intro i hi
  obtain ⟨g, e, h1, h2, hc⟩ := h.at_ (by omega)
  obtain ⟨c, f⟩ := hc i hi
  exact ⟨g, _, e, h1, c, f⟩
theorem WdC.kk {w w' : World} {B n : Nat} {A : Option Addr} (h : WdC w B A n) (k : KK w w') : WdC w' B A n := fun i hi => by
  obtain ⟨g, t, e, h1, c, f⟩ := h i hi
  obtain ⟨t', c'⟩ := k.u _ _ _ c
  exact ⟨g, t', e, h1, c', k.f _ _ f (World.block_lt_of_cell? w _ c)⟩
theorem WdC.more {w : World} {B B' n : Nat} {A : Option Addr} (h : WdC w B A n) (hB : B' ≤ B) : WdC w B' A n := fun i hi => by
  obtain ⟨g, t, e, h1, c, f⟩ := h i hi
  exact ⟨g, t, e, by omega, c, f⟩
def SpC (w : World) (B : Nat) (V : Option Addr) (n : Nat) : Prop := ∀ i, i < n → ∃ g s M m cm, V = some ⟨g, 0, none⟩ ∧ B ≤ g ∧ w.cell? ⟨g, i * 8 + 7, none⟩ = some (.bool s) ∧ w.frozen? ⟨g, i * 8 + 7, none⟩ = false ∧ w.cell? ⟨g, i * 8 + 6, none⟩ = some (.slice M m cm) ∧ m ≤ 17592186044416 ∧ WdC w B M m
theorem SpC.of_owns {w : World} {B n cap : Nat} {V : Option Addr} {vs : List Sv} (h : OwnsS w B V n cap vs) (hl : ∀ v ∈ vs, v.d.mw.length ≤ 17592186044416) : SpC w B V n := by
  intro i hi
  obtain ⟨_, ⟨h1, h2⟩ | ⟨g, cap', cur, e, hB, hg, _⟩⟩ := id h.row_
  · omega
  · injection e with e1 _ e3
    subst e1
    have hr := h.row_
    have hiv : i < vs.length := by rw [h.len]; exact hi
    have c8 := sp8_of_owns hr h.len i hi
    have c6 := c8.c6
    have c7 := c8.c7
    rw [Nat.zero_add] at c6 c7
    have hw := h.words vs[i] (List.getElem_mem hiv)
    exact ⟨g, _, _, _, _, rfl, hB, c7, hr.frozenAt _, c6, hl _ (List.getElem_mem hiv), WdC.of_own hw.2⟩
theorem SpC.kk {w w' : World} {B n : Nat} {V : Option Addr} (h : SpC w B V n) (k : KK w w') : SpC w' B V n := fun i hi => by
  obtain ⟨g, s, M, m, cm, e, h1, c7, f7, c6, hm, hw⟩ := h i hi
  obtain ⟨s', c7'⟩ := k.b _ _ _ c7
  exact ⟨g, s', M, m, cm, e, h1, c7', k.f _ _ f7 (World.block_lt_of_cell? w _ c7), k.s _ _ _ _ _ c6, hm, hw.kk k⟩
theorem SpC.more {w : World} {B B' n : Nat} {V : Option Addr} (h : SpC w B V n) (hB : B' ≤ B) : SpC w B' V n := fun i hi => by
  obtain ⟨g, s, M, m, cm, e, h1, c7, f7, c6, hm, hw⟩ := h i hi
  exact ⟨g, s, M, m, cm, e, by omega, c7, f7, c6, hm, hw.more hB⟩
structure HC (w : World) (B : Nat) (v : Hv) (h : Hp) : Prop where
  a : WdC w B v.A h.ws.length
  u : WdC w B v.U h.us.length
  s : SpC w B v.V h.l.length
  s0 : Short h
theorem HC.of_owns {w : World} {B : Nat} {v : Hv} {h : Hp} (o : OwnsH w B v h) (hs : Short h) : HC w B v h := by
  obtain ⟨vs, e, h1⟩ := o.s
  exact ⟨WdC.of_own o.a, WdC.of_own o.u, SpC.of_owns h1 fun x hx => (hs.each x.d (by rw [← e]; exact List.mem_map_of_mem hx)).2, hs⟩
theorem HC.kk {w w' : World} {B : Nat} {v : Hv} {h : Hp} (c : HC w B v h) (k : KK w w') : HC w' B v h := ⟨c.a.kk k, c.u.kk k, c.s.kk k, c.s0⟩
theorem HC.more {w : World} {B B' : Nat} {v : Hv} {h : Hp} (c : HC w B v h) (hB : B' ≤ B) : HC w B' v h := ⟨c.a.more hB, c.u.more hB, c.s.more hB, c.s0⟩
theorem HC.later {w w' : World} {B : Nat} {v : Hv} {h : Hp} (c : HC w B v h) (hb : Below w.heap.size w w') : HC w' B v h := c.kk (.later hb)
structure H4 (w : World) (G o : Nat) (v : Hv) (h : Hp) : Prop where
  c0 : w.cell? ⟨G, o, none⟩ = some (.slice v.A h.ws.length v.ca)
  c1 : w.cell? ⟨G, o + 1, none⟩ = some (.int .i64 h.n)
  c2 : w.cell? ⟨G, o + 2, none⟩ = some (.slice v.U h.us.length v.cu)
  c3 : w.cell? ⟨G, o + 3, none⟩ = some (.slice v.V h.l.length v.cv)
theorem H4.kk {w w' : World} {G o : Nat} {v : Hv} {h : Hp} (c : H4 w G o v h) (k : KK w w') : H4 w' G o v h := ⟨k.s _ _ _ _ _ c.c0, k.n _ _ _ c.c1, k.s _ _ _ _ _ c.c2, k.s _ _ _ _ _ c.c3⟩
def HR4 (w : World) (B G : Nat) : Prop := ∀ k, k < 4 → ∃ v h, H4 w G (k * 4) v h ∧ HC w B v h
theorem HR4.kk {w w' : World} {B G : Nat} (r : HR4 w B G) (k : KK w w') : HR4 w' B G := fun i hi => by
  obtain ⟨v, h, h1, h2⟩ := r i hi
  exact ⟨v, h, h1.kk k, h2.kk k⟩
def hcl (v : Hv) (h : Hp) : List Value := [.slice v.A h.ws.length v.ca, .int .i64 h.n, .slice v.U h.us.length v.cu, .slice v.V h.l.length v.cv]
theorem HR4.new {w : World} {B : Nat} {v0 v1 v2 v3 : Hv} {h0 h1 h2 h3 : Hp} (c0 : HC w B v0 h0) (c1 : HC w B v1 h1) (c2 : HC w B v2 h2) (c3 : HC w B v3 h3) (t : TypeId) :
    HR4 (w.alloc (.cells #[.slice v0.A h0.ws.length v0.ca, .int .i64 h0.n, .slice v0.U h0.us.length v0.cu, .slice v0.V h0.l.length v0.cv, .slice v1.A h1.ws.length v1.ca, .int .i64 h1.n, .slice v1.U h1.us.length v1.cu, .slice v1.V h1.l.length v1.cv, .slice v2.A h2.ws.length v2.ca, .int .i64 h2.n, .slice v2.U h2.us.length v2.cu, .slice v2.V h2.l.length v2.cv, .slice v3.A h3.ws.length v3.ca, .int .i64 h3.n, .slice v3.U h3.us.length v3.cu, .slice v3.V h3.l.length v3.cv] t)) B w.heap.size := fun k hk => by
  have hb : ∀ o, Below w.heap.size w (w.alloc o) := fun o => (Below.refl _ _).alloc (Nat.le_refl _) _
  obtain rfl | rfl | rfl | rfl : k = 0 ∨ k = 1 ∨ k = 2 ∨ k = 3 := by omega
  · exact ⟨v0, h0, ⟨by simp [go_sem], by simp [go_sem], by simp [go_sem], by simp [go_sem]⟩, c0.later (hb _)⟩
  · exact ⟨v1, h1, ⟨by simp [go_sem], by simp [go_sem], by simp [go_sem], by simp [go_sem]⟩, c1.later (hb _)⟩
  · exact ⟨v2, h2, ⟨by simp [go_sem], by simp [go_sem], by simp [go_sem], by simp [go_sem]⟩, c2.later (hb _)⟩
  · exact ⟨v3, h3, ⟨by simp [go_sem], by simp [go_sem], by simp [go_sem], by simp [go_sem]⟩, c3.later (hb _)⟩
theorem short0 : Short hp0 := ⟨Nat.zero_le _, Nat.zero_le _, Nat.zero_le _, fun d hd => (by cases hd)⟩
theorem NewE.short {h : Hp} {n : Int} {m : Nat} {bl : Bool} {h' : Hp} {a : Nat} {y : Int} (hE : NewE h n m bl h' a y) : Short h' := by
  by_cases hk : OkH h
  · exact (hE.ok hk).short
  · rcases hE with ⟨_, rfl, _⟩ | ⟨e, _⟩ | ⟨e, _⟩ | ⟨e, _⟩
    · exact short0
    · exact absurd e hk
    · exact absurd e hk
    · exact absurd e hk
theorem MarE.short {h : Hp} {a : Nat} {h' : Hp} {b : Bool} {y : Int} (hE : MarE h a h' b y) : Short h' := by
  by_cases hk : OkH h
  · exact (hE.ok hk).short
  · rcases hE with ⟨_, rfl, _⟩ | ⟨e, _⟩ | ⟨e, _⟩
    · exact short0
    · exact absurd e hk
    · exact absurd e hk
theorem UnmE.short {h : Hp} {h' : Hp} {y : Int} (hE : UnmE h h' y) : Short h' := by
  by_cases hk : OkH h
  · exact (hE.ok hk).short
  · rcases hE with ⟨_, rfl, _⟩ | ⟨e, _⟩ | ⟨e, _⟩
    · exact short0
    · exact absurd e hk
    · exact absurd e hk
theorem TrnE.short {h : Hp} {h' : Hp} {y : Int} (hE : TrnE h h' y) : Short h' := by
  by_cases hk : OkH h
  · exact (hE.ok hk).short
  · rcases hE with ⟨_, rfl, _⟩ | ⟨e, _⟩ | ⟨e, _⟩ | ⟨e, _⟩
    · exact short0
    · exact absurd e hk
    · exact absurd e hk
    · exact absurd e hk
end Go.Proofs.YtogfbdeplogcfaaGreatDoor
namespace Go.Proofs.YtogfbdeplogcfaaGreatDoor
open Go.RowKit
set_option maxRecDepth 100000

set_option maxHeartbeats 16000000 in
theorem heapOwn_walk (v : Hv) (h : Hp) (n : Int) (m a : Nat) (w : World) (hz : Sizes w) (hM : HM w w.heap.size v h) (hs : Short h) (hnil : v.V = none → v.cv = 0) (hm : m < W64) (ha : a < W64) :
    Calls Tryz.prog 11 #[hpV v h, .agg #[.int .i64 n, .int .u64 (m : Nat)], .int .u64 (a : Nat)] w fun e w' => e = .returned (.bool true) ∧ Below w.heap.size w w' := by
  have X0 := (HIn.new hM 31).alloc (.cells #[.int .i64 n, .int .u64 (m : Nat)] 34)
  have P0 := (Two.new1 w (.cells #[.slice v.A h.ws.length v.ca, .int .i64 h.n, .slice v.U h.us.length v.cu, .slice v.V h.l.length v.cv] 31) (.int .i64 n) (.int .u64 (m : Nat)) 34)
  obtain ⟨h1, a1, y1, E1⟩ := NewE.ex h n m true
  obtain ⟨h3, b3, y3, E3⟩ := MarE.ex h a
  obtain ⟨h4, y4, E4⟩ := UnmE.ex h
  obtain ⟨h5, y5, E5⟩ := TrnE.ex h
  have HCP := Lib.hid fun (w : World) hM => hcopy_any (w := w) (v := v) (h := h) hM hs
  have HNEW := Lib.hid fun (w : World) hz hM => znewH_any (w := w) (v := v) (h := h) hz hM (by have := hs.l; omega) hs.ws hnil n m hm true h1 a1 y1 E1
  have HMAR := Lib.hid fun (w : World) hz hM => zmarkH_any (w := w) (v := v) (h := h) hz hM (by have := hs.l; omega) hs.ws hnil a ha h3 b3 y3 E3
  have HUNM := Lib.hid fun (w : World) hz hM => zunmarkH_any (w := w) (v := v) (h := h) hz hM (by have := hs.l; omega) hs.ws hnil h4 y4 E4
  have HTRN := Lib.hid fun (w : World) hz hM => zturnH_any (w := w) (v := v) (h := h) hz hM (by have := hs.l; omega) hs.ws hnil h5 y5 E5
  have HSAME := Lib.hid fun (w : World) (v v' : Hv) m m' => hsame_any (w := w) (v := v) (v' := v') (h := h) m m' hs
  have S1 := E1.short
  have S3 := E3.short
  have S4 := E4.short
  have S5 := E5.short
  unfold FreshHa at HNEW
  unfold FreshHb at HMAR
  unfold FreshH at HUNM HTRN
  clear E1 E3 E4 E5 hs hM hnil
  unfold hpV hpv at HCP HNEW HMAR HUNM HTRN HSAME ⊢
  go_enter Tryz.func11, Tryz.ntmps11
  go_wp2_with fail
  go_at_call 19
  refine (hlives_any _ (hz.later (by repeat (first|exact bR _ _|assumption|refine bN ?_ _|refine bD ?_|refine bA ?_ (by first|omega|simp;omega|simp) _|refine bS ?_ (by first|omega|simp;omega|simp) _|refine bT ?_ (by assumption) (by first|omega|simp;omega|simp))))).mono ?_
  rintro e w1 ⟨rfl, hb_w1⟩
  have b_w1 : Below w.heap.size w w1 := (by repeat (first|exact bR _ _|assumption|refine bN ?_ _|refine bD ?_|refine bA ?_ (by first|omega|simp;omega|simp) _|refine bS ?_ (by first|omega|simp;omega|simp) _|refine bT ?_ (by assumption) (by first|omega|simp;omega|simp)))
  replace X0 := X0.later hb_w1
  replace P0 := P0.later hb_w1
  obtain ⟨X0_c0, X0_c1, X0_c2, X0_c3, X0_f0, X0_f1, X0_f2, X0_f3⟩ := id X0.box
  go_wp2_with fail
  go_at_call 14
  refine (HCP.out _ X0.m).mono ?_
  rintro e w2 ⟨v2, rfl, k2, hb_w2⟩
  clear X0_c0 X0_c1 X0_c2 X0_c3 X0_f0 X0_f1 X0_f2 X0_f3
  have b_w2 : Below w.heap.size w w2 := b_w1.trans (hb_w2.mono b_w1.size)
  replace X0 := X0.later hb_w2
  replace P0 := P0.later hb_w2
  have a_w2_0 : Below w2.heap.size w2 (w2.alloc (.cells #[.slice v2.A h.ws.length v2.ca, .int .i64 h.n, .slice v2.U h.us.length v2.cu, .slice v2.V h.l.length v2.cv] 31)) := Below.alloc (Below.refl _ _) (Nat.le_refl _) _
  replace X0 := X0.later a_w2_0
  replace P0 := P0.later a_w2_0
  have K0 := HIn.new k2 31
  have b_w2_0 : Below w.heap.size w (w2.alloc (.cells #[.slice v2.A h.ws.length v2.ca, .int .i64 h.n, .slice v2.U h.us.length v2.cu, .slice v2.V h.l.length v2.cv] 31)) := b_w2.trans (a_w2_0.mono b_w2.size)
  clear k2
  have b_W2 := b_w2_0
  generalize hW2 : w2.alloc (.cells #[.slice v2.A h.ws.length v2.ca, .int .i64 h.n, .slice v2.U h.us.length v2.cu, .slice v2.V h.l.length v2.cv] 31) = W2 at *
  have KM := Lib.hid K0
  have XM := Lib.hid X0
  clear K0
  have m_none : Below W2.heap.size W2 W2 := Below.refl _ _
  obtain ⟨X0_c0, X0_c1, X0_c2, X0_c3, X0_f0, X0_f1, X0_f2, X0_f3⟩ := id X0.box
  obtain ⟨P0_c0, P0_c1, P0_f0⟩ := id P0
  go_wp2_with fail
  go_at_call 15
  refine (HNEW.out _ (hz.later (by exact b_W2)) X0.m).mono ?_
  rintro e w3 ⟨v3, rfl, o3, hb_w3⟩
  have C3 := HC.of_owns o3 S1
  clear X0_c0 X0_c1 X0_c2 X0_c3 X0_f0 X0_f1 X0_f2 X0_f3 P0_c0 P0_c1 P0_f0
  have b_w3 : Below w.heap.size w w3 := b_W2.trans (hb_w3.mono b_W2.size)
  have m_w3 : Below W2.heap.size W2 w3 := hb_w3
  replace X0 := X0.later hb_w3
  replace P0 := P0.later hb_w3
  have a_w3_0 : Below w3.heap.size w3 (w3.alloc (.cells #[.slice v3.A h1.ws.length v3.ca, .int .i64 h1.n, .slice v3.U h1.us.length v3.cu, .slice v3.V h1.l.length v3.cv] 31)) := Below.alloc (Below.refl _ _) (Nat.le_refl _) _
  replace X0 := X0.later a_w3_0
  replace P0 := P0.later a_w3_0
  have X3 := HIn.new o3.hm 31
  have b_w3_0 : Below w.heap.size w (w3.alloc (.cells #[.slice v3.A h1.ws.length v3.ca, .int .i64 h1.n, .slice v3.U h1.us.length v3.cu, .slice v3.V h1.l.length v3.cv] 31)) := b_w3.trans (a_w3_0.mono b_w3.size)
  have m_w3_0 : Below W2.heap.size W2 (w3.alloc (.cells #[.slice v3.A h1.ws.length v3.ca, .int .i64 h1.n, .slice v3.U h1.us.length v3.cu, .slice v3.V h1.l.length v3.cv] 31)) := m_w3.trans (a_w3_0.mono m_w3.size)
  replace C3 := (C3.more (B' := W2.heap.size) (by first | exact Nat.le_refl _ | exact m_none.size)).later a_w3_0
  clear o3
  obtain ⟨X0_c0, X0_c1, X0_c2, X0_c3, X0_f0, X0_f1, X0_f2, X0_f3⟩ := id X0.box
  go_wp2_with fail
  go_at_call 29
  refine (HMAR.out _ (hz.later (by exact b_w3_0)) X0.m).mono ?_
  rintro e w4 ⟨v4, rfl, o4, hb_w4⟩
  have C4 := HC.of_owns o4 S3
  clear X0_c0 X0_c1 X0_c2 X0_c3 X0_f0 X0_f1 X0_f2 X0_f3
  have b_w4 : Below w.heap.size w w4 := b_w3_0.trans (hb_w4.mono b_w3_0.size)
  have m_w4 : Below W2.heap.size W2 w4 := m_w3_0.trans (hb_w4.mono m_w3_0.size)
  replace X0 := X0.later hb_w4
  replace P0 := P0.later hb_w4
  replace X3 := X3.later hb_w4
  replace C3 := C3.later hb_w4
  have a_w4_0 : Below w4.heap.size w4 (w4.alloc (.cells #[.slice v4.A h3.ws.length v4.ca, .int .i64 h3.n, .slice v4.U h3.us.length v4.cu, .slice v4.V h3.l.length v4.cv] 31)) := Below.alloc (Below.refl _ _) (Nat.le_refl _) _
  replace X0 := X0.later a_w4_0
  replace P0 := P0.later a_w4_0
  replace X3 := X3.later a_w4_0
  replace C3 := C3.later a_w4_0
  have X4 := HIn.new o4.hm 31
  have b_w4_0 : Below w.heap.size w (w4.alloc (.cells #[.slice v4.A h3.ws.length v4.ca, .int .i64 h3.n, .slice v4.U h3.us.length v4.cu, .slice v4.V h3.l.length v4.cv] 31)) := b_w4.trans (a_w4_0.mono b_w4.size)
  have m_w4_0 : Below W2.heap.size W2 (w4.alloc (.cells #[.slice v4.A h3.ws.length v4.ca, .int .i64 h3.n, .slice v4.U h3.us.length v4.cu, .slice v4.V h3.l.length v4.cv] 31)) := m_w4.trans (a_w4_0.mono m_w4.size)
  replace C4 := (C4.more (B' := W2.heap.size) (by first | exact Nat.le_refl _ | exact m_w3_0.size)).later a_w4_0
  clear o4
  obtain ⟨X0_c0, X0_c1, X0_c2, X0_c3, X0_f0, X0_f1, X0_f2, X0_f3⟩ := id X0.box
  go_wp2_with fail
  go_at_call 33
  refine (HUNM.out _ (hz.later (by exact b_w4_0)) X0.m).mono ?_
  rintro e w5 ⟨v5, rfl, o5, hb_w5⟩
  have C5 := HC.of_owns o5 S4
  clear X0_c0 X0_c1 X0_c2 X0_c3 X0_f0 X0_f1 X0_f2 X0_f3
  have b_w5 : Below w.heap.size w w5 := b_w4_0.trans (hb_w5.mono b_w4_0.size)
  have m_w5 : Below W2.heap.size W2 w5 := m_w4_0.trans (hb_w5.mono m_w4_0.size)
  replace X0 := X0.later hb_w5
  replace P0 := P0.later hb_w5
  replace X3 := X3.later hb_w5
  replace C3 := C3.later hb_w5
  replace X4 := X4.later hb_w5
  replace C4 := C4.later hb_w5
  have a_w5_0 : Below w5.heap.size w5 (w5.alloc (.cells #[.slice v5.A h4.ws.length v5.ca, .int .i64 h4.n, .slice v5.U h4.us.length v5.cu, .slice v5.V h4.l.length v5.cv] 31)) := Below.alloc (Below.refl _ _) (Nat.le_refl _) _
  replace X0 := X0.later a_w5_0
  replace P0 := P0.later a_w5_0
  replace X3 := X3.later a_w5_0
  replace C3 := C3.later a_w5_0
  replace X4 := X4.later a_w5_0
  replace C4 := C4.later a_w5_0
  have X5 := HIn.new o5.hm 31
  have b_w5_0 : Below w.heap.size w (w5.alloc (.cells #[.slice v5.A h4.ws.length v5.ca, .int .i64 h4.n, .slice v5.U h4.us.length v5.cu, .slice v5.V h4.l.length v5.cv] 31)) := b_w5.trans (a_w5_0.mono b_w5.size)
  have m_w5_0 : Below W2.heap.size W2 (w5.alloc (.cells #[.slice v5.A h4.ws.length v5.ca, .int .i64 h4.n, .slice v5.U h4.us.length v5.cu, .slice v5.V h4.l.length v5.cv] 31)) := m_w5.trans (a_w5_0.mono m_w5.size)
  replace C5 := (C5.more (B' := W2.heap.size) (by first | exact Nat.le_refl _ | exact m_w4_0.size)).later a_w5_0
  clear o5
  obtain ⟨X0_c0, X0_c1, X0_c2, X0_c3, X0_f0, X0_f1, X0_f2, X0_f3⟩ := id X0.box
  go_wp2_with fail
  go_at_call 38
  refine (HTRN.out _ (hz.later (by exact b_w5_0)) X0.m).mono ?_
  rintro e w6 ⟨v6, rfl, o6, hb_w6⟩
  have C6 := HC.of_owns o6 S5
  clear X0_c0 X0_c1 X0_c2 X0_c3 X0_f0 X0_f1 X0_f2 X0_f3
  have b_w6 : Below w.heap.size w w6 := b_w5_0.trans (hb_w6.mono b_w5_0.size)
  have m_w6 : Below W2.heap.size W2 w6 := m_w5_0.trans (hb_w6.mono m_w5_0.size)
  replace X0 := X0.later hb_w6
  replace P0 := P0.later hb_w6
  replace X3 := X3.later hb_w6
  replace C3 := C3.later hb_w6
  replace X4 := X4.later hb_w6
  replace C4 := C4.later hb_w6
  replace X5 := X5.later hb_w6
  replace C5 := C5.later hb_w6
  have a_w6_0 : Below w6.heap.size w6 (w6.alloc (.cells #[.slice v6.A h5.ws.length v6.ca, .int .i64 h5.n, .slice v6.U h5.us.length v6.cu, .slice v6.V h5.l.length v6.cv] 31)) := Below.alloc (Below.refl _ _) (Nat.le_refl _) _
  replace X0 := X0.later a_w6_0
  replace P0 := P0.later a_w6_0
  replace X3 := X3.later a_w6_0
  replace C3 := C3.later a_w6_0
  replace X4 := X4.later a_w6_0
  replace C4 := C4.later a_w6_0
  replace X5 := X5.later a_w6_0
  replace C5 := C5.later a_w6_0
  have X6 := HIn.new o6.hm 31
  have b_w6_0 : Below w.heap.size w (w6.alloc (.cells #[.slice v6.A h5.ws.length v6.ca, .int .i64 h5.n, .slice v6.U h5.us.length v6.cu, .slice v6.V h5.l.length v6.cv] 31)) := b_w6.trans (a_w6_0.mono b_w6.size)
  have m_w6_0 : Below W2.heap.size W2 (w6.alloc (.cells #[.slice v6.A h5.ws.length v6.ca, .int .i64 h5.n, .slice v6.U h5.us.length v6.cu, .slice v6.V h5.l.length v6.cv] 31)) := m_w6.trans (a_w6_0.mono m_w6.size)
  replace C6 := (C6.more (B' := W2.heap.size) (by first | exact Nat.le_refl _ | exact m_w5_0.size)).later a_w6_0
  clear o6
  obtain ⟨X3_c0, X3_c1, X3_c2, X3_c3, X3_f0, X3_f1, X3_f2, X3_f3⟩ := id X3.box
  obtain ⟨X4_c0, X4_c1, X4_c2, X4_c3, X4_f0, X4_f1, X4_f2, X4_f3⟩ := id X4.box
  obtain ⟨X5_c0, X5_c1, X5_c2, X5_c3, X5_f0, X5_f1, X5_f2, X5_f3⟩ := id X5.box
  obtain ⟨X6_c0, X6_c1, X6_c2, X6_c3, X6_f0, X6_f1, X6_f2, X6_f3⟩ := id X6.box
  have m_W6 := m_w6_0
  have b_W6 := b_w6_0
  generalize hW6 : w6.alloc (.cells #[.slice v6.A h5.ws.length v6.ca, .int .i64 h5.n, .slice v6.U h5.us.length v6.cu, .slice v6.V h5.l.length v6.cv] 31) = W6 at *
  have R0 := Lib.hid fun (t : TypeId) => HR4.new C3 C4 C5 C6 t
  clear C3 C4 C5 C6 X0 P0
  have hw6 := m_W6.size
  have hm6 : ∀ o, Below W2.heap.size W2 (W6.alloc o) := fun o => m_W6.alloc hw6 o
  go_wp2_with fail
  clear X3_c0 X3_c1 X3_c2 X3_c3 X3_f0 X3_f1 X3_f2 X3_f3 X4_c0 X4_c1 X4_c2 X4_c3 X4_f0 X4_f1 X4_f2 X4_f3 X5_c0 X5_c1 X5_c2 X5_c3 X5_f0 X5_f1 X5_f2 X5_f3 X6_c0 X6_c1 X6_c2 X6_c3 X6_f0 X6_f1 X6_f2 X6_f3
  go_loopw [58] (fun ii wr => ∃ k : Nat, ii = .int .i64 (k : Nat) ∧ k ≤ 4 ∧ HR4 wr W2.heap.size W6.heap.size ∧ Below W2.heap.size W2 wr) (fun ii _ => 4 - (intOf ii).toNat)
  case atStart => exact ⟨0, rfl, by omega, R0.out _, hm6 _⟩
  case round =>
    clear R0 X3 X4 X5 X6 hm6
    obtain ⟨k, rfl, hk, hR, hb_wr⟩ := hrel
    by_cases hlt : k < 4
    · obtain ⟨vk, hk2, h4k, hc⟩ := hR k hlt
      have i1 : (k : Int) < 4 := by omega
      have i2 : (0 : Int) ≤ (k : Int) := by omega
      obtain ⟨d0, d1, d2, d3⟩ := id h4k
      have B19 := B4.new wr (.slice vk.A hk2.ws.length vk.ca) (.int .i64 hk2.n) (.slice vk.U hk2.us.length vk.cu) (.slice vk.V hk2.l.length vk.cv) 31
      have a19 : Below wr.heap.size wr (wr.alloc (.cells #[.slice vk.A hk2.ws.length vk.ca, .int .i64 hk2.n, .slice vk.U hk2.us.length vk.cu, .slice vk.V hk2.l.length vk.cv] 31)) := Below.alloc (Below.refl _ _) (Nat.le_refl _) _
      have hR19 := hR.kk (.later a19)
      have hc19 := hc.later a19
      have hb19 := hb_wr.trans (a19.mono hb_wr.size)
      have HR := Lib.hid hR19
      have HCC := Lib.hid hc19
      clear hR hc hR19 hc19 h4k
      go_wp2_with fail
      clear d0 d1 d2 d3 a19 hb_wr
      generalize wr = wD at *
      generalize wD.alloc (.cells #[.slice vk.A hk2.ws.length vk.ca, .int .i64 hk2.n, .slice vk.U hk2.us.length vk.cu, .slice vk.V hk2.l.length vk.cv] 31) = W19 at *
      obtain ⟨wa, wu, wS, sh⟩ := HCC.out
      have la := sh.ws
      have lu := sh.us
      have ll := sh.l
      obtain ⟨zA, zca, zU, zcu, zV, zcv⟩ := vk
      obtain ⟨zws, zn, zus, zl⟩ := hk2
      simp only at wa wu wS B19 la lu ll
      clear HCC sh
      generalize zws.length = na at *
      generalize zus.length = nu at *
      generalize zl.length = nl at *
      have WA := Lib.hid wa
      have WU := Lib.hid wu
      have WS := Lib.hid wS
      have HB19 := Lib.hid B19
      clear wa wu wS B19
      go_loopw [66] (fun ii wr => ∃ i : Nat, ii = .int .i64 (i : Nat) ∧ i ≤ na ∧ KK W19 wr ∧ Below W2.heap.size W2 wr) (fun ii _ => na - (intOf ii).toNat)
      case atStart => exact ⟨0, rfl, Nat.zero_le _, KK.refl _, hb19⟩
      case round =>
        clear hb19
        obtain ⟨i, rfl, hi, kk, hb_wr⟩ := hrel
        by_cases hil : i < na
        · have e0 := kk.s _ _ _ _ _ HB19.out.c0
          obtain ⟨g, t, rfl, hgB, cw, fw⟩ := (WA.out.kk kk) i hil
          have i3 : (i : Int) < (na : Int) := by omega
          have i4 : (0 : Int) ≤ (i : Int) := by omega
          have HK := Lib.hid fun (u : Int) => kk.trans (KK.setU cw u)
          have HB := Lib.hid fun (u : Int) => hb_wr.setCell (p := ⟨g, i, none⟩) (show W2.heap.size ≤ g from hgB) (.int .u64 u)
          clear kk hb_wr
          go_wp2
          go_roundw
          case rel => exact ⟨i + 1, by go_num, by omega, HK.out _, HB.out _⟩
          case measure => simp [intOf]; omega
        · have e3 := kk.s _ _ _ _ _ HB19.out.c3
          have KK1 := Lib.hid kk
          clear kk
          go_wp2_with fail
          clear e3
          generalize wr = wE at *
          go_loopw [81] (fun ii wr => ∃ j : Nat, ii = .int .i64 (j : Nat) ∧ j ≤ nl ∧ KK W19 wr ∧ Below W2.heap.size W2 wr) (fun ii _ => nl - (intOf ii).toNat)
          case atStart => exact ⟨0, rfl, Nat.zero_le _, KK1.out, hb_wr⟩
          case round =>
            clear hb_wr KK1
            obtain ⟨j, rfl, hj, kk, hb_wr⟩ := hrel
            by_cases hjl : j < nl
            · have e3 := kk.s _ _ _ _ _ HB19.out.c3
              obtain ⟨g, s, Mw, mn, cm, rfl, hgB, c7, f7, c6, hmn, hw⟩ := (WS.out.kk kk) j hjl
              have j3 : (j : Int) < (nl : Int) := by omega
              have j4 : (0 : Int) ≤ (j : Int) := by omega
              have HK := Lib.hid fun (u : Bool) => kk.trans (KK.setB c7 u)
              have HS6 := Lib.hid fun (u : Bool) => (KK.setB c7 u).s _ _ _ _ _ c6
              have HWM := Lib.hid fun (u : Bool) => hw.kk (KK.setB c7 u)
              have HB := Lib.hid fun (u : Bool) => hb_wr.setCell (p := ⟨g, j * 8 + 7, none⟩) (show W2.heap.size ≤ g from hgB) (.bool u)
              clear kk hb_wr c6 hw
              go_wp2_with fail
              go_region_with fail
              all_goals
                have dS : KK (wr.setCell ⟨g, j * 8 + 7, none⟩ (.bool !s)) (wr.setCell ⟨g, j * 8 + 7, none⟩ (.bool !s)).drew := KK.later (Below.refl _ _).drew
                have kS := (HK.out (!s)).trans dS
                have c6S := dS.s _ _ _ _ _ (HS6.out (!s))
                have wSS := (HWM.out (!s)).kk dS
                have bS := (HB.out (!s)).drew
                have e3S := kS.s _ _ _ _ _ HB19.out.c3
                clear HK HS6 HWM HB e3 c7 f7 dS
                generalize (wr.setCell ⟨g, j * 8 + 7, none⟩ (.bool !s)).drew = wS at *
                have c66 : wS.cell? ⟨g, j * 8 + 5 + 1, none⟩ = some (.slice Mw mn cm) := c6S
                have KS := Lib.hid kS
                have WSS := Lib.hid wSS
                have C6S := Lib.hid c6S
                clear kS wSS
                go_wp2_with fail
                clear c66 c6S e3S
                try generalize wr = wF at *
                go_loopw [104] (fun ii wr => ∃ q : Nat, ii = .int .i64 (q : Nat) ∧ q ≤ mn ∧ KK wS wr ∧ Below W2.heap.size W2 wr) (fun ii _ => mn - (intOf ii).toNat)
                case atStart => exact ⟨0, rfl, Nat.zero_le _, KK.refl _, bS⟩
                case round =>
                  clear bS
                  obtain ⟨q, rfl, hq, kk2, hb_wr⟩ := hrel
                  by_cases hqm : q < mn
                  · have e3 := (KS.out.trans kk2).s _ _ _ _ _ HB19.out.c3
                    have c6 := kk2.s _ _ _ _ _ C6S.out
                    obtain ⟨gw, tt, rfl, hwB, cw1, fw1⟩ := (WSS.out.kk kk2) q hqm
                    have c66 : wr.cell? ⟨g, j * 8 + 5 + 1, none⟩ = some (.slice (some ⟨gw, 0, none⟩) mn cm) := c6
                    have q3 : (q : Int) < (mn : Int) := by omega
                    have q4 : (0 : Int) ≤ (q : Int) := by omega
                    have HK := Lib.hid fun (u : Int) => kk2.trans (KK.setU cw1 u)
                    have HB := Lib.hid fun (u : Int) => hb_wr.setCell (p := ⟨gw, q, none⟩) (show W2.heap.size ≤ gw from hwB) (.int .u64 u)
                    clear kk2 hb_wr
                    go_wp2
                    go_roundw
                    case rel => exact ⟨q + 1, by go_num, by omega, HK.out _, HB.out _⟩
                    case measure => simp [intOf]; omega
                  · have HK := Lib.hid (KS.out.trans kk2)
                    clear kk2
                    go_wp2
                    go_roundw
                    case rel => exact ⟨j + 1, by go_num, by omega, HK.out, hb_wr⟩
                    case measure => simp [intOf]; omega
            · have e2 := kk.s _ _ _ _ _ HB19.out.c2
              have KK2 := Lib.hid kk
              clear kk
              go_wp2_with fail
              clear e2
              generalize wr = wG at *
              go_loopw [126] (fun ii wr => ∃ i : Nat, ii = .int .i64 (i : Nat) ∧ i ≤ nu ∧ KK W19 wr ∧ Below W2.heap.size W2 wr) (fun ii _ => nu - (intOf ii).toNat)
              case atStart => exact ⟨0, rfl, Nat.zero_le _, KK2.out, hb_wr⟩
              case round =>
                clear hb_wr KK2
                obtain ⟨i, rfl, hi, kk, hb_wr⟩ := hrel
                by_cases hil : i < nu
                · have e2 := kk.s _ _ _ _ _ HB19.out.c2
                  obtain ⟨g, t, rfl, hgB, cw, fw⟩ := (WU.out.kk kk) i hil
                  have i3 : (i : Int) < (nu : Int) := by omega
                  have i4 : (0 : Int) ≤ (i : Int) := by omega
                  have HK := Lib.hid fun (u : Int) => kk.trans (KK.setU cw u)
                  have HB := Lib.hid fun (u : Int) => hb_wr.setCell (p := ⟨g, i, none⟩) (show W2.heap.size ≤ g from hgB) (.int .u64 u)
                  clear kk hb_wr
                  go_wp2
                  go_roundw
                  case rel => exact ⟨i + 1, by go_num, by omega, HK.out _, HB.out _⟩
                  case measure => simp [intOf]; omega
                · have HK := Lib.hid (HR.out.kk kk)
                  clear kk
                  go_wp2
                  go_roundw
                  case rel => exact ⟨k + 1, by go_num, by omega, HK.out, hb_wr⟩
                  case measure => simp [intOf]; omega
    · obtain rfl : k = 4 := by omega
      clear hR
      have hsz := hb_wr.size
      have X9 := XM.out.box.below hb_wr XM.out.lt
      have K9 := KM.out.box.below hb_wr KM.out.lt
      have XM9 := (XM.out.m.below hb_wr).more hsz
      have KM9 := (KM.out.m.below hb_wr).more hsz
      have b9 : Below w.heap.size w wr := b_W2.trans (hb_wr.mono b_W2.size)
      obtain ⟨c0, c1, c2, c3, f0, f1, f2, f3⟩ := id X9
      obtain ⟨d0, d1, d2, d3, g0, g1, g2, g3⟩ := id K9
      go_wp2_with fail
      go_at_call 20
      refine (HSAME.out _ _ _ XM9 KM9).mono ?_
      rintro e w9 ⟨rfl, hb9⟩
      have bb : Below w.heap.size w w9 := b9.trans (hb9.mono b9.size)
      go_wp2
      go_ret
      exact ⟨rfl, bb⟩
end Go.Proofs.YtogfbdeplogcfaaGreatDoor
