/- Contracts of the document's package: jumps; what in and reg answer. -/
import Derived.Test.YtggaijdbaplfiaaGreatDoorAs32
import Derived.Test.YtggaijdbaplfiaaGreatDoorAs33
namespace Go.Proofs.YtggaijdbaplfiaaGreatDoor
open Go.RowKit
set_option linter.unusedVariables false
set_option linter.unusedSimpArgs false
theorem q_same {P : Program} {f : FuncId} {args : Array Value} {w : World} {n : Nat} {v : Value} (h : Calls P f args (w.drewN n) fun e w' => e = .returned v ∧ w' = w.drewN n) :
    Calls P f args (w.drewN n) fun e w'' => e = .returned v ∧ ∃ m, w'' = w.drewN m := h.mono fun _ _ ⟨he, hm⟩ => ⟨he, n, hm⟩
def HasIn (h : List UInt8) (v : Int) (c : Bool) : Prop := ∀ W : World, Calls Tryz.prog 61 #[.string (bs h), .int .u8 v] W fun e w' => e = .returned (.bool c) ∧ w' = W
theorem hasIn_of (h : List UInt8) (hl : h.length ≤ 1000) (c : UInt8) : HasIn h (c.toNat : Nat) (h.contains c) := fun W => by
  have := xin_any (w := W) (bs h) (by rw [bs_size]; exact hl) c
  rw [bs_data] at this
  exact this
def RegIn (n : Int) (b r : Bool) : Prop := ∀ W : World, Calls Tryz.prog 60 #[.int .i64 n, .bool b] W fun e w' => e = .returned (.bool r) ∧ w' = W
theorem fms_has : ∀ f ∈ fms, (hasF f).length ≤ 3 := by decide
theorem hasD_len (k o : Int) : (hasF (formD k o)).length ≤ 3 := by
  unfold formD
  cases h : fms.find? fun f => f.kd == k && (k != 1 || f.op == o) with
  | none => decide
  | some f => exact fms_has f (List.mem_of_find?_eq_some h)
section
variable {w : World}
set_option maxRecDepth 100000 in
set_option maxHeartbeats 4000000 in
theorem xjumps_any (x : In) (h0 : 0 ≤ x.op) (h1 : x.op < 256) : Calls Tryz.prog 49 #[inv x] w fun e w' => e = .returned (.bool ((hasF (formD x.kd x.op)).contains 116)) ∧ Below w.heap.size w w' := by
  have HN := Lib.hid fun (w : World) => xname_any (w := w) x h0 h1
  have HI := Lib.hid (hasIn_of (hasF (formD x.kd x.op)) (by have := hasD_len x.kd x.op; omega) 116)
  unfold HasIn at HI
  clear h0 h1
  generalize (hasF (formD x.kd x.op)).contains 116 = R at *
  generalize bs (formD x.kd x.op).nm = B1 at *
  generalize bs (hasF (formD x.kd x.op)) = B2 at *
  unfold inv at *
  go_enter Tryz.func49, Tryz.ntmps49
  go_wp2_with fail
  go_at_call 42
  refine (HN.out _).mono ?_
  rintro e w1 ⟨rfl, hb_w1⟩
  obtain ⟨hc_w1, hf_w1⟩ := bcell hb_w1; have hs_w1 := hb_w1.size; (try simp only [World.size_alloc, World.size_setCell, World.size_drew, World.heap_drewN] at hs_w1)
  go_wp2_with fail
  go_at_call 61
  refine (HI.out _).mono ?_
  rintro e w2 ⟨rfl, rfl⟩
  go_wp2
  go_ret
  exact ⟨rfl, (by repeat (first | exact Below.refl _ _ | assumption | (refine below_drewN ?_ _) | (refine Below.drew ?_) | (refine Below.alloc ?_ (by first | omega | (simp; omega) | simp) _) | (refine Below.setCell ?_ (by first | omega | (simp; omega) | simp) _) | (refine below_trans ?_ (by assumption) (by first | omega | (simp; omega) | simp))))⟩
end
end Go.Proofs.YtggaijdbaplfiaaGreatDoor
