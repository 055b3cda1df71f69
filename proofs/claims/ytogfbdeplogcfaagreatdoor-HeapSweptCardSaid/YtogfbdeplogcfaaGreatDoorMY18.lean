/- parts B1, Z43 -/
import Derived.Test.YtogfbdeplogcfaaGreatDoorMY17
import Derived.Deep.AppendLies
import Derived.OwnWalk
import Derived.BigQuiet
set_option linter.unusedVariables false
set_option linter.unusedSimpArgs false
namespace Go.Proofs.YtogfbdeplogcfaaGreatDoor
open Go.RowKit

section
variable {A : Option Addr} {ws : List Nat} {w : World} (cap : Nat)
end
theorem asame_ok (ws : List Nat) (hm : ws.length ≤ maxLen) (w : World) (A A' : Option Addr) (cap cap' : Nat) (hr : Row w w.heap.size A ws) (hr' : Row w w.heap.size A' ws) :
    Calls Tryz.prog 71 #[.agg #[.slice A ws.length cap], .agg #[.slice A' ws.length cap']] w fun e w' => e = .returned (.bool true) ∧ Below w.heap.size w w' := by
  unfold maxLen at hm
  have hd2 : ((ws.length : Int) != (ws.length : Int)) = false := by simp
  go_enter Tryz.func71, Tryz.ntmps71
  go_wp2
  go_loopw [16] (fun i wr => ∃ k m : Nat, i = .int .i64 k ∧ k ≤ ws.length ∧ wr = ((w.alloc (Obj.cells #[Value.slice A ws.length cap] 24)).alloc (Obj.cells #[Value.slice A' ws.length cap'] 24)).drewN m)
    (fun i _ => ws.length - (intOf i).toNat)
  case atStart => exact ⟨0, 0, rfl, Nat.zero_le _, rfl⟩
  case round =>
    obtain ⟨k, m, rfl, hk, rfl⟩ := hrel
    by_cases hlt : k < ws.length
    · obtain ⟨b, off, rfl, hb, hc⟩ := hr.at_ (by omega)
      obtain ⟨b', off', rfl, hb', hc'⟩ := hr'.at_ (by omega)
      have hck := hc k hlt
      have hck' := hc' k hlt
      obtain ⟨x, hx⟩ := named ws k
      rw [hx.out] at hck hck'
      have hd3 : ((x : Int) != (x : Int)) = false := by simp
      clear hc hc'
      go_wp2
      go_quiet (fail)
      go_wp2
      go_roundw
      case rel => exact ⟨k + 1, _, by go_num, by omega, rfl⟩
      case measure => simp [intOf]; omega
    · go_wp2
      go_ret
      exact ⟨rfl, (by repeat (first|exact bR _ _|assumption|refine bN ?_ _|refine bD ?_|refine bA ?_ (by first|omega|simp;omega|simp) _|refine bS ?_ (by first|omega|simp;omega|simp) _|refine bT ?_ (by assumption) (by first|omega|simp;omega|simp)))⟩
end Go.Proofs.YtogfbdeplogcfaaGreatDoor
namespace Go.Proofs.YtogfbdeplogcfaaGreatDoor
open Go.RowKit
set_option maxRecDepth 100000

structure HIn (w : World) (b : Nat) (v : Hv) (h : Hp) : Prop where
  box : B4 w b (.slice v.A h.ws.length v.ca) (.int .i64 h.n) (.slice v.U h.us.length v.cu) (.slice v.V h.l.length v.cv)
  m : HM w w.heap.size v h
theorem HIn.later {w w' : World} {b : Nat} {v : Hv} {h : Hp} (x : HIn w b v h) (hb : Below w.heap.size w w') : HIn w' b v h := ⟨x.box.later hb, x.m.later hb⟩
theorem HIn.alloc {w : World} {b : Nat} {v : Hv} {h : Hp} (x : HIn w b v h) (o : Obj) : HIn (w.alloc o) b v h := x.later ((Below.refl _ _).alloc (Nat.le_refl _) _)
theorem HIn.new {w : World} {v : Hv} {h : Hp} (m : HM w w.heap.size v h) (t : TypeId) : HIn (w.alloc (.cells #[.slice v.A h.ws.length v.ca, .int .i64 h.n, .slice v.U h.us.length v.cu, .slice v.V h.l.length v.cv] t)) w.heap.size v h :=
  ⟨B4.new _ _ _ _ _ _, m.later ((Below.refl _ _).alloc (Nat.le_refl _) _)⟩
structure Short (h : Hp) : Prop where
  l : h.l.length ≤ 1466015503658
  ws : h.ws.length ≤ 17592186044416
  us : h.us.length ≤ 17592186044416
  each : WordsLe h.l
theorem OkH.short {h : Hp} (hk : OkH h) : Short h := by
  have h1 := hk.framed.pages.2.2.1
  have h2 := hk.framed.pages.2.1
  refine ⟨by have := hk.framed.spans.1; omega, hk.lens.2, by omega, fun d hd => ?_⟩
  obtain ⟨i, hi, rfl⟩ := List.getElem_of_mem hd
  have ok := hk.framed.spans.at_ hi
  have e : nth h.l i = h.l[i] := by unfold nth; rw [List.getD_eq_getElem?_getD, List.getElem?_eq_getElem hi]; rfl
  rw [e] at ok
  have a1 := ok.aw
  have a2 := ok.mw
  omega
section
variable {w : World} {v v' : Hv} {h : Hp}
end
end Go.Proofs.YtogfbdeplogcfaaGreatDoor
