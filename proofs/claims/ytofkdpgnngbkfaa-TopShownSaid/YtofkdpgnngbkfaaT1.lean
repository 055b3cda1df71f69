/- Contracts for the law TopShown: the questions whose answers the document gives (begins); words stored, loaded, cleared, added up in an arena. -/
import Derived.Test.YtofkdpgnngbkfaaC1
import Derived.Test.YtofkdpgnngbkfaaAgree
import Derived.Deep.AppendLies
namespace Go.Proofs.Ytofkdpgnngbkfaa
open Go.RowKit
set_option linter.unusedVariables false
set_option linter.unusedSimpArgs false

set_option maxHeartbeats 1000000 in
theorem begins_any (w : World) : Calls Try.prog 15 #[] w fun e w' => e = .returned (.bool true) ∧ Below w.heap.size w w' := by
  go_enter Try.func15, Try.ntmps15
  go_wp2_with fail
  go_at_call 23
  refine ((make_ok 70 _ (by omega) (by omega)).mono fun _ _ h => h.got (vs := [0, 0]) rfl).mono ?_
  rintro e w1 ⟨u1, A1, cap1, hu1, rfl, ho1, hb_w1⟩
  obtain ⟨hc_w1, hf_w1⟩ := bcell hb_w1; have hs_w1 := hb_w1.size; (try simp only [World.size_alloc, World.size_setCell, World.size_drew, World.heap_drewN] at hs_w1)
  have hR1 : Hid (Right 70 u1) := Lib.hid (by rw [hu1.out]; exact right70)
  go_wp2_with fail
  go_at_call 24
  refine ((put_in cap1 true 69 (ho1.row.later (by repeat (first | exact Below.refl _ _ | assumption | (refine below_drewN ?_ _) | (refine Below.drew ?_) | (refine Below.alloc ?_ (by first | omega | (simp; omega) | simp) _) | (refine Below.setCell ?_ (by first | omega | (simp; omega) | simp) _) | (refine below_trans ?_ (by assumption) (by first | omega | (simp; omega) | simp))))) hR1.out (by omega) (by omega)).mono fun _ _ h => h.got (vs := [0, 32]) (by rw [hu1.out]; decide)).mono ?_
  rintro e w2 ⟨u2, A2, cap2, hu2, rfl, ho2, hb_w2⟩
  obtain ⟨hc_w2, hf_w2⟩ := bcell hb_w2; have hz_w2_w1_0 : w1.heap.size < w2.heap.size := (by have hzz := hb_w2.size; (try simp only [World.size_alloc, World.size_setCell, World.size_drew, World.heap_drewN] at hzz); omega); have hs_w2 := hb_w2.size; (try simp only [World.size_alloc, World.size_setCell, World.size_drew, World.heap_drewN] at hs_w2)
  have hR2 : Hid (Right 70 u2) := Lib.hid (by rw [hu2.out]; exact right70')
  have t2 : Two w2 w1.heap.size _ _ := (Two.new w1 _ _ _).below hb_w2 (by first | omega | (simp; omega) | simp)
  obtain ⟨q0, q1, _⟩ := id t2
  have s0 : ∀ V, (w2.setCell ⟨w1.heap.size, 0, none⟩ V).cell? ⟨w1.heap.size, 0, none⟩ = some V := fun V => World.cell?_setCell_same _ _ _ q0
  have s1 : ∀ V V', ((w2.setCell ⟨w1.heap.size, 0, none⟩ V).setCell ⟨w1.heap.size, 1, none⟩ V').cell? ⟨w1.heap.size, 1, none⟩ = some V' := fun V V' => (set_two V V' q0 q1).2
  have s2 : ∀ V V', ((w2.setCell ⟨w1.heap.size, 0, none⟩ V).setCell ⟨w1.heap.size, 1, none⟩ V').cell? ⟨w1.heap.size, 0, none⟩ = some V := fun V V' => (set_two V V' q0 q1).1
  have r2 := (ho2.two (g := w1.heap.size) (u := .int .i64 70) (v := .slice A2 u2.length cap2) (by first | omega | (simp; omega) | simp))
  go_wp2_with fail
  go_at_call 19
  refine (count_ok cap2 r2.row hR2.out).mono ?_
  rintro e w3 ⟨rfl, hb_w3⟩
  obtain ⟨hc_w3, hf_w3⟩ := bcell hb_w3; have hz_w3_w1_0 : w1.heap.size < w3.heap.size := (by have hzz := hb_w3.size; (try simp only [World.size_alloc, World.size_setCell, World.size_drew, World.heap_drewN] at hzz); omega); have hs_w3 := hb_w3.size; (try simp only [World.size_alloc, World.size_setCell, World.size_drew, World.heap_drewN] at hs_w3)
  rw [show countTo u2 (70 : Int).toNat = 1 by rw [hu2.out]; decide]
  go_wp2
  go_ret
  exact ⟨rfl, (by repeat (first | exact Below.refl _ _ | assumption | (refine below_drewN ?_ _) | (refine Below.drew ?_) | (refine Below.alloc ?_ (by first | omega | (simp; omega) | simp) _) | (refine Below.setCell ?_ (by first | omega | (simp; omega) | simp) _) | (refine below_trans ?_ (by assumption) (by first | omega | (simp; omega) | simp))))⟩

/-- an arena of a call's own, of so many words -/
def FreshL (w : World) (L : Nat) (us : List Nat) (why : Int) (e : Ending) (w' : World) : Prop :=
  ∃ A cap, e = .returned (.tuple #[.agg #[.slice A L cap], .int .i64 why]) ∧ Own w' w.heap.size A us ∧ Below w.heap.size w w'
theorem FreshA.len {w : World} {us : List Nat} {why : Int} {e : Ending} {w' : World} (h : FreshA w us why e w') {L : Nat} (hL : us.length = L) : FreshL w L us why e w' := by
  subst hL
  obtain ⟨A, cap, h1, h2, h3⟩ := h
  exact ⟨A, cap, h1, h2.1, h3⟩
section
variable {A : Option Addr} {us : List Nat} {w : World} (cap : Nat) (L : Nat)
theorem store_at (k x : Nat) (hr : Row w w.heap.size A us) (hL : us.length = L) (hm : L ≤ 16384) (hk : k < L) (hx : x < W64) :
    Calls Try.prog 17 #[.agg #[.slice A L cap], .int .u64 (k : Nat), .int .u64 (x : Nat)] w fun e w' => FreshL w L (us.set k x) 0 e w' := by
  subst hL
  have h := store_any cap k x hr (by omega) (by unfold W64; omega) hx
  rw [(resA_in (us := us.set k x) hm (show k + 1 ≤ us.length by omega)).1, (resA_in (us := us.set k x) hm (show k + 1 ≤ us.length by omega)).2] at h
  exact h.mono fun _ _ hh => hh.len (by rw [List.length_set])
theorem load_at (k x : Nat) (hr : Row w w.heap.size A us) (hL : us.length = L) (hm : L ≤ 16384) (hk : k < L) (hx : us.getD k 0 = x) :
    Calls Try.prog 5 #[.agg #[.slice A L cap], .int .u64 (k : Nat)] w fun e w' => e = .returned (.tuple #[.int .u64 (x : Nat), .int .i64 0]) ∧ Below w.heap.size w w' := by
  subst hL hx
  have h := load_any cap k hr (by unfold W64; omega)
  rw [(resA_in (us := us) hm (show k + 1 ≤ us.length by omega)).2, show gotA us k = us.getD k 0 by unfold gotA; rw [if_pos hm, if_pos (by omega)]] at h
  exact h
theorem clear_all (hr : Row w w.heap.size A us) (hL : us.length = L) (hm : L ≤ 16384) :
    Calls Try.prog 20 #[.agg #[.slice A L cap], .int .u64 0, .int .u64 (L : Nat)] w fun e w' => FreshL w L (overTo us 0 (fun _ => 0) L) 0 e w' := by
  subst hL
  have h := clear_any cap 0 us.length hr (by omega) (by decide) (by unfold W64; omega)
  rw [(resA_in (us := overTo us 0 (fun _ => 0) us.length) hm (show 0 + us.length ≤ us.length by omega)).1, (resA_in (us := overTo us 0 (fun _ => 0) us.length) hm (show 0 + us.length ≤ us.length by omega)).2] at h
  exact h.mono fun _ _ hh => hh.len (length_overTo _ _ _ _)
theorem sum_zero {B : Option Addr} (cap' : Nat) (hr : Row w w.heap.size A us) (hp : Row w w.heap.size B [0]) (hL : us.length = L) (hm : L ≤ 16384) (hz : us.getD 0 0 = 0) (y : Int) (hy : (0 < L ∧ y = 0) ∨ (L = 0 ∧ y = 1)) :
    Calls Try.prog 7 #[.agg #[.slice A L cap], .slice B 1 cap'] w fun e w' => e = .returned (.tuple #[.int .u64 0, .int .i64 y]) ∧ Below w.heap.size w w' := by
  subst hL
  refine (sum_ok cap cap' hr hp (by simp) hm).mono fun e w' ⟨he, hb⟩ => ⟨?_, hb⟩
  rcases he with ⟨ha, he⟩ | ⟨ha, he⟩
  · have hi : 0 < us.length := ha 0 (by simp)
    have e1 : sumTo us [0] 1 = 0 := by
      simp only [sumTo, List.getD_cons_zero, Nat.zero_add]
      rw [hz]
      rfl
    rw [show [0].length = 1 from rfl] at he
    rw [he, e1]
    rcases hy with ⟨_, rfl⟩ | ⟨h0, _⟩
    · rfl
    · omega
  · have hi : ¬ 0 < us.length := fun hi => ha fun j hj => by
      have : j = 0 := by simpa using hj
      subst this
      exact hi
    rcases hy with ⟨h0, _⟩ | ⟨_, rfl⟩
    · exact absurd h0 hi
    · exact he
end
theorem owns_later {w w' : World} {B s n : Nat} {e : TypeId} {v : Value} {xs : List Value} (h : w.ownsRow B e s v n xs) (hb : Below w.heap.size w w') : w'.ownsRow B e s v n xs := by
  refine World.ownsRow.kept (row := none) h ⟨hb.os, hb.tape, hb.output, hb.size, fun k hk _ => hb.block k hk⟩ ?_
  cases hv : v.ownBlock
  · exact .inl rfl
  · exact .inr (by simp)
theorem row_of_owns {w : World} {B k cap : Nat} {A : Option Addr} {us : List Nat} (h : w.ownsRow B 25 1 (.slice A k cap) k (vals us)) (hl : us.length = k) (hw : Words us) : Row w w.heap.size A us := by
  refine ⟨hw, fun h0 => ?_⟩
  obtain ⟨_, ⟨h1, h2⟩ | ⟨g, cap', cur, e, _, _, _, _, _, _⟩⟩ := id h
  · omega
  · injection e with e1 e2 e3
    subst e1
    exact ⟨g, 0, rfl, (h.lt g rfl).2, fun i hi => by rw [Nat.zero_add, h.cellAt i (by omega), vals_at us i hi]⟩
theorem Two.set1 {w : World} {g : Nat} {u0 u1 : Value} (h : Two w g u0 u1) (v1 : Value) : Two (w.setCell ⟨g, 1, none⟩ v1) g u0 v1 :=
  ⟨(World.cell?_setCell_other _ _ _ _ (by intro e; injection e; omega)).trans h.c0, World.cell?_setCell_same _ _ _ h.c1, fun i => by rw [World.frozen?_setCell]; exact h.fr i⟩
theorem take_next (ws : List Nat) (k : Nat) (h : k < ws.length) : ws.take (k + 1) = ws.take k ++ [ws.getD k 0] := by
  rw [List.take_succ_eq_append_getElem h]
  simp [h]
theorem vals_next (ws : List Nat) (k : Nat) (h : k < ws.length) : vals (ws.take (k + 1)) = vals (ws.take k) ++ [.int .u64 (ws.getD k 0 : Nat)] := by
  rw [take_next ws k h]
  simp [vals]
theorem row_lit1 (W : World) (x : Nat) (hx : x < W64) : Row (W.alloc (.cells #[.int .u64 (x : Nat)] 25)) (W.alloc (.cells #[.int .u64 (x : Nat)] 25)).heap.size (some ⟨W.heap.size, 0, none⟩) [x] :=
  ⟨fun y hy => by rw [List.mem_singleton] at hy; rw [hy]; exact hx, fun _ => ⟨W.heap.size, 0, rfl, by simp, fun i hi => by
    obtain rfl : i = 0 := by simpa using hi
    simp [go_sem]⟩⟩
theorem row_zero (W : World) : Row (W.alloc (.cells #[.int .u64 0] 25)) (W.alloc (.cells #[.int .u64 0] 25)).heap.size (some ⟨W.heap.size, 0, none⟩) [0] := row_lit1 W 0 (by decide)
theorem row_zero2 (W : World) (o : Obj) : Row ((W.alloc o).alloc (.cells #[.int .u64 0] 25)) ((W.alloc o).alloc (.cells #[.int .u64 0] 25)).heap.size (some ⟨W.heap.size + 1, 0, none⟩) [0] := by
  have h := row_zero (W.alloc o)
  have e : (W.alloc o).heap.size = W.heap.size + 1 := by simp
  rw [e] at h
  exact h
end Go.Proofs.Ytofkdpgnngbkfaa
