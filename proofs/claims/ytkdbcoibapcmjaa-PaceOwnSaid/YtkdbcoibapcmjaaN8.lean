/- Contracts of package pace: a collection begins and ends, where the pacer lies. -/
import Derived.Test.YtkdbcoibapcmjaaN7
namespace Go.Proofs.Ytkdbcoibapcmjaa
open Go.RowKit
set_option linter.unusedVariables false
set_option linter.unusedSimpArgs false
set_option maxRecDepth 100000

theorem ival_eq {k : IntKind} {a b : Int} (h : a = b) : Value.int k a = Value.int k b := by rw [h]
section
variable {w w' : World} {B c b g : Nat} {A : Option Addr} {ds : List Nat}
theorem OwnD.off (h : OwnD w B A c ds) (ho : Off b g w w') (h1 : b < B) (h2 : g < B) : OwnD w' B A c ds :=
  ⟨⟨h.own.words, fun hl => by
    obtain ⟨k, e, hB, hk, hc⟩ := h.own.at_ hl
    exact ⟨k, e, hB, Nat.lt_of_lt_of_le hk ho.size, fun i hi => ⟨(ho.cell _ _ hk (by omega) (by omega)).trans (hc i hi).1, (ho.fr _ _ hk (by omega) (by omega)).trans (hc i hi).2⟩⟩⟩, h.cap, h.nil⟩
theorem Ten.cong {v0 v1 v2 v3 v4 v5 v6 v7 v8 v9 x3 x4 x5 x6 x7 x8 : Value} (h : Ten w b v0 v1 v2 v3 v4 v5 v6 v7 v8 v9) (e3 : v3 = x3) (e4 : v4 = x4) (e5 : v5 = x5) (e6 : v6 = x6) (e7 : v7 = x7) (e8 : v8 = x8) : Ten w b v0 v1 v2 x3 x4 x5 x6 x7 x8 v9 := by
  subst e3 e4 e5 e6 e7 e8; exact h
end
/-- a pacer in a box -/
def PBox (w : World) (b : Nat) (p : Pc) (A : Option Addr) (c : Nat) : Prop := Ten w b (.int .i64 p.pct) (.int .u64 (p.least : Nat)) (.int .u64 (p.live : Nat)) (.bool p.on) (.int .u64 (p.est : Nat)) (.int .u64 (p.room : Nat)) (.int .u64 (p.credit : Nat)) (.int .u64 (p.done : Nat)) (.int .u64 (p.made : Nat)) (.slice A p.ds.length c)
section
variable {w : World} {p : Pc} {A : Option Addr} {b : Nat} (c : Nat)
set_option maxHeartbeats 2000000 in
theorem pbegin_any (hk : OkP p) (hb : PBox w b p A c) (heap : Nat) (hh : heap ≤ 1099511627776) :
    Calls Try.prog 34 #[.pointer (some ⟨b, 0, none⟩), .int .u64 (heap : Nat)] w fun e w' => e = .returned (.tuple #[]) ∧ PBox w' b (begP p heap) A c ∧ Off b b w w' := by
  have h3 := hk.live; have h5 := goalP_le p
  have HX := Lib.hid fun (w : World) => pgoal_any (w := w) (p := p) (A := A) c hk
  have HR : Hid ((begP p heap).room = max (max (goalP p - min heap (goalP p)) (goalP p / 20)) 1) := Lib.hid rfl
  have HE : Hid ((begP p heap).est = max p.live 1) := Lib.hid rfl
  have HQ : Hid ((begP p heap).pct = p.pct ∧ (begP p heap).least = p.least ∧ (begP p heap).live = p.live ∧ (begP p heap).on = true ∧ (begP p heap).credit = p.credit ∧ (begP p heap).done = p.done ∧ (begP p heap).made = p.made ∧ (begP p heap).ds = p.ds) := Lib.hid ⟨rfl, rfl, rfl, rfl, rfl, rfl, rfl, rfl⟩
  generalize goalP p = g at *
  generalize begP p heap = q at *
  clear hk
  unfold PBox at *
  obtain ⟨q0, q1, q2, q3, q4, q5, q6, q7⟩ := HQ.out
  rw [q0, q1, q2, q3, q4, q5, q6, q7, HE.out, HR.out]
  clear q0 q1 q2 q3 q4 q5 q6 q7 HQ HE HR
  obtain ⟨pct, least, live, on, est, room, credit, done, made, ds⟩ := p
  simp only at *
  have hlt := hb.lt
  obtain ⟨n0, n1, n2, n3, n4, n5, n6, n7, n8, n9, nf⟩ := id hb
  go_enter Try.func34, Try.ntmps34
  go_wp2_with fail
  go_at_call 29
  refine (HX.out _).mono ?_
  rintro e w1 ⟨rfl, hb_w1⟩
  obtain ⟨hc_w1, hf_w1⟩ := bcell hb_w1; have hs_w1 := hb_w1.size; (try simp only [World.size_alloc, World.size_setCell, World.size_drew, World.heap_drewN] at hs_w1)
  have hb1 := hb.later hb_w1
  have hlt1 := hb1.lt
  clear hc_w1 hf_w1 n0 n1 n2 n3 n4 n5 n6 n7 n8 n9 nf
  obtain ⟨n0, n1, n2, n3, n4, n5, n6, n7, n8, n9, nf⟩ := id hb1
  go_wp2
  all_goals
    go_end0
    trace_state
    exact ⟨rfl, (((hb1.set3 _).set4 _).set5 _).cong rfl (ival_eq (by omega)) (ival_eq (by omega)) rfl rfl rfl, (Off.of hb_w1).trans (((Off.set ⟨b, 3, none⟩ (.inl rfl) _).trans (Off.set ⟨b, 4, none⟩ (.inl rfl) _)).trans (Off.set ⟨b, 5, none⟩ (.inl rfl) _))⟩
end
end Go.Proofs.Ytkdbcoibapcmjaa
