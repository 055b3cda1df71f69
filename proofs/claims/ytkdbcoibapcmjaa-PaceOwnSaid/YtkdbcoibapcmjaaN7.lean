/- Contracts of package pace: copies; whether there is a mutator; sums; a collection begins and ends. -/
import Derived.Test.YtkdbcoibapcmjaaN6
namespace Go.Proofs.Ytkdbcoibapcmjaa
open Go.RowKit
set_option linter.unusedVariables false
set_option linter.unusedSimpArgs false
set_option maxRecDepth 100000

/-- debts of a call's own, in a block from B on -/
structure OwnD (w : World) (B : Nat) (A : Option Addr) (c : Nat) (ds : List Nat) : Prop where
  own : Own w B A ds
  cap : ds.length ≤ c
  nil : A = none → c = 0
theorem OwnsN.d {w : World} {B n cap : Nat} {A : Option Addr} {t : List Nat} (h : OwnsN w B A n cap t) : OwnD w B A cap t := ⟨h.own, by have := h.cap_; have := h.len; omega, h.nil_⟩
theorem OwnD.none (w : World) (B : Nat) : OwnD w B none 0 [] := ⟨Own.nil _ _, by simp, fun _ => rfl⟩
section
variable {w w' : World} {B B' c : Nat} {A : Option Addr} {ds : List Nat}
theorem OwnD.row (h : OwnD w B A c ds) : Row w w.heap.size A ds := h.own.row
theorem OwnD.later (h : OwnD w B A c ds) (hb : Below w.heap.size w w') : OwnD w' B A c ds := ⟨h.own.later hb, h.cap, h.nil⟩
theorem OwnD.mono (h : OwnD w B A c ds) (hB : B' ≤ B) : OwnD w B' A c ds := ⟨h.own.mono hB, h.cap, h.nil⟩
theorem OwnD.far (h : OwnD w B A c ds) {p : Addr} (hp : p.block < B ∨ w.heap.size ≤ p.block) (u : Value) : OwnD (w.setCell p u) B A c ds := ⟨h.own.far hp u, h.cap, h.nil⟩
theorem OwnD.ten {g : Nat} (h : OwnD w B A c ds) (hp : g < B ∨ w.heap.size ≤ g) (u0 u1 u2 u3 u4 u5 u6 u7 u8 u9 : Value) : OwnD ((((((((((w.setCell ⟨g, 0, .none⟩ u0).setCell ⟨g, 1, .none⟩ u1).setCell ⟨g, 2, .none⟩ u2).setCell ⟨g, 3, .none⟩ u3).setCell ⟨g, 4, .none⟩ u4).setCell ⟨g, 5, .none⟩ u5).setCell ⟨g, 6, .none⟩ u6).setCell ⟨g, 7, .none⟩ u7).setCell ⟨g, 8, .none⟩ u8).setCell ⟨g, 9, .none⟩ u9) B A c ds := ⟨own_ten h.own hp _ _ _ _ _ _ _ _ _ _, h.cap, h.nil⟩
/-- what stays when boxes b and g alone are changed -/
structure Off (b g : Nat) (w w' : World) : Prop where
  size : w.heap.size ≤ w'.heap.size
  cell : ∀ k o, k < w.heap.size → k ≠ b → k ≠ g → w'.cell? ⟨k, o, .none⟩ = w.cell? ⟨k, o, .none⟩
  fr : ∀ k o, k < w.heap.size → k ≠ b → k ≠ g → w'.frozen? ⟨k, o, .none⟩ = w.frozen? ⟨k, o, .none⟩
  below : ∀ B, B ≤ b → B ≤ g → B ≤ w.heap.size → Below B w w'
theorem Off.refl (b g : Nat) (w : World) : Off b g w w := ⟨Nat.le_refl _, fun _ _ _ _ _ => rfl, fun _ _ _ _ _ => rfl, fun _ _ _ _ => Below.refl _ _⟩
theorem Off.of {b g : Nat} (h : Below w.heap.size w w') : Off b g w w' := ⟨h.size, fun k o hk _ _ => (bcell h).1 _ _ hk, fun k o hk _ _ => (bcell h).2 _ _ hk, fun B _ _ hB => h.mono hB⟩
theorem Off.trans {b g : Nat} {u : World} (h : Off b g w w') (k : Off b g w' u) : Off b g w u :=
  ⟨Nat.le_trans h.size k.size, fun x o hx h1 h2 => (k.cell x o (Nat.lt_of_lt_of_le hx h.size) h1 h2).trans (h.cell x o hx h1 h2), fun x o hx h1 h2 => (k.fr x o (Nat.lt_of_lt_of_le hx h.size) h1 h2).trans (h.fr x o hx h1 h2),
    fun B h1 h2 h3 => (h.below B h1 h2 h3).trans (k.below B h1 h2 (Nat.le_trans h3 h.size))⟩
theorem Off.set {b g : Nat} (p : Addr) (hp : p.block = b ∨ p.block = g) (u : Value) : Off b g w (w.setCell p u) :=
  ⟨by simp, fun k o hk h1 h2 => World.cell?_setCell_other _ _ _ _ (by rintro rfl; rcases hp with h | h; exact h1 h; exact h2 h), fun k o _ _ _ => World.frozen?_setCell _ _ _ _,
    fun B h1 h2 _ => (Below.refl _ _).setCell (by rcases hp with h | h <;> omega) u⟩
theorem Off.swap {b g : Nat} (h : Off b g w w') : Off g b w w' := ⟨h.size, fun k o a b c => h.cell k o a c b, fun k o a b c => h.fr k o a c b, fun B a b c => h.below B b a c⟩
theorem Ten.off {b g k : Nat} {v0 v1 v2 v3 v4 v5 v6 v7 v8 v9 : Value} (h : Ten w k v0 v1 v2 v3 v4 v5 v6 v7 v8 v9) (ho : Off b g w w') (h1 : k ≠ b) (h2 : k ≠ g) : Ten w' k v0 v1 v2 v3 v4 v5 v6 v7 v8 v9 :=
  ⟨(ho.cell _ _ h.lt h1 h2).trans h.c0, (ho.cell _ _ h.lt h1 h2).trans h.c1, (ho.cell _ _ h.lt h1 h2).trans h.c2, (ho.cell _ _ h.lt h1 h2).trans h.c3, (ho.cell _ _ h.lt h1 h2).trans h.c4, (ho.cell _ _ h.lt h1 h2).trans h.c5, (ho.cell _ _ h.lt h1 h2).trans h.c6, (ho.cell _ _ h.lt h1 h2).trans h.c7, (ho.cell _ _ h.lt h1 h2).trans h.c8, (ho.cell _ _ h.lt h1 h2).trans h.c9, fun i => (ho.fr _ _ h.lt h1 h2).trans (h.f i)⟩
end
theorem pcapped_any (x : Nat) (w : World) (hx : x < W64) : Calls Try.prog 45 #[.int .u64 (x : Nat)] w fun e w' => e = .returned (.int .u64 (cp x : Nat)) ∧ w = w' := by
  have HC : Hid (cp x = min x 1099511627776) := Lib.hid rfl
  generalize cp x = y at *
  go_enter Try.func45, Try.ntmps45
  go_wp2
  all_goals
    go_ret
    exact ⟨ret_int (by rw [HC.out]; omega), rfl⟩
section
variable {w : World} {p : Pc} {A : Option Addr} (c : Nat)
theorem phas_anyP (who : Int) :
    Calls Try.prog 36 #[(.agg #[.int .i64 p.pct, .int .u64 (p.least : Nat), .int .u64 (p.live : Nat), .bool p.on, .int .u64 (p.est : Nat), .int .u64 (p.room : Nat), .int .u64 (p.credit : Nat), .int .u64 (p.done : Nat), .int .u64 (p.made : Nat), .slice A p.ds.length c]), .int .i64 who] w fun e w' => e = .returned (.bool (decide (0 ≤ who ∧ who < p.ds.length))) ∧ Below w.heap.size w w' := by
  obtain ⟨pct, least, live, on, est, room, credit, done, made, ds⟩ := p
  simp only at *
  by_cases h : 0 ≤ who
  · have f0 : decide (0 ≤ who) = true := by simpa using h
    have e1 : decide (0 ≤ who ∧ who < (ds.length : Int)) = decide (who < (ds.length : Int)) := by simp [h]
    rw [e1]
    go_enter Try.func36, Try.ntmps36
    go_wp2
    go_ret
    exact ⟨rfl, (by repeat (first | exact Below.refl _ _ | assumption | (refine below_drewN ?_ _) | (refine Below.drew ?_) | (refine Below.alloc ?_ (by first | omega | (simp; omega) | simp) _) | (refine Below.setCell ?_ (by first | omega | (simp; omega) | simp) _) | (refine below_trans ?_ (by assumption) (by first | omega | (simp; omega) | simp))))⟩
  · have f0 : decide (0 ≤ who) = false := by simpa using h
    have e1 : decide (0 ≤ who ∧ who < (ds.length : Int)) = false := by simp [h]
    rw [e1]
    go_enter Try.func36, Try.ntmps36
    go_wp2
    go_ret
    exact ⟨rfl, (by repeat (first | exact Below.refl _ _ | assumption | (refine below_drewN ?_ _) | (refine Below.drew ?_) | (refine Below.alloc ?_ (by first | omega | (simp; omega) | simp) _) | (refine Below.setCell ?_ (by first | omega | (simp; omega) | simp) _) | (refine below_trans ?_ (by assumption) (by first | omega | (simp; omega) | simp))))⟩
set_option maxHeartbeats 1000000 in
theorem ptwin_any (hr : Row w w.heap.size A p.ds) (hl : p.ds.length ≤ 17592186044416) (hn : A = none → c = 0) :
    Calls Try.prog 33 #[(.agg #[.int .i64 p.pct, .int .u64 (p.least : Nat), .int .u64 (p.live : Nat), .bool p.on, .int .u64 (p.est : Nat), .int .u64 (p.room : Nat), .int .u64 (p.credit : Nat), .int .u64 (p.done : Nat), .int .u64 (p.made : Nat), .slice A p.ds.length c])] w fun e w' => ∃ A' c', e = .returned (.agg #[.int .i64 p.pct, .int .u64 (p.least : Nat), .int .u64 (p.live : Nat), .bool p.on, .int .u64 (p.est : Nat), .int .u64 (p.room : Nat), .int .u64 (p.credit : Nat), .int .u64 (p.done : Nat), .int .u64 (p.made : Nat), .slice A' p.ds.length c']) ∧ OwnD w' w.heap.size A' c' p.ds ∧ Below w.heap.size w w' := by
  have HC := Lib.hid fun (w : World) hr => wclone_any (w := w) (A := A) (t := p.ds) c hr hl hn
  unfold CopiedN at HC
  obtain ⟨pct, least, live, on, est, room, credit, done, made, ds⟩ := p
  simp only at *
  go_enter Try.func33, Try.ntmps33
  go_wp2_with fail
  go_at_call 44
  refine (HC.out _ (hr.later (by repeat (first | exact Below.refl _ _ | assumption | (refine below_drewN ?_ _) | (refine Below.drew ?_) | (refine Below.alloc ?_ (by first | omega | (simp; omega) | simp) _) | (refine Below.setCell ?_ (by first | omega | (simp; omega) | simp) _) | (refine below_trans ?_ (by assumption) (by first | omega | (simp; omega) | simp)))))).mono ?_
  rintro e w1 ⟨A1, c1, rfl, oA, hb_w1⟩
  obtain ⟨hc_w1, hf_w1⟩ := bcell hb_w1; have hz_w1_w_0 : w.heap.size < w1.heap.size := (by have hzz := hb_w1.size; (try simp only [World.size_alloc, World.size_setCell, World.size_drew, World.heap_drewN] at hzz); omega); have hz_w1_w_1 : w.heap.size + 1 < w1.heap.size := (by have hzz := hb_w1.size; (try simp only [World.size_alloc, World.size_setCell, World.size_drew, World.heap_drewN] at hzz); omega); have hs_w1 := hb_w1.size; (try simp only [World.size_alloc, World.size_setCell, World.size_drew, World.heap_drewN] at hs_w1)
  have b1 : Below w.heap.size w w1 := (by repeat (first | exact Below.refl _ _ | assumption | (refine below_drewN ?_ _) | (refine Below.drew ?_) | (refine Below.alloc ?_ (by first | omega | (simp; omega) | simp) _) | (refine Below.setCell ?_ (by first | omega | (simp; omega) | simp) _) | (refine below_trans ?_ (by assumption) (by first | omega | (simp; omega) | simp))))
  have t0 := ((Ten.new w (.int .i64 pct) (.int .u64 (least : Nat)) (.int .u64 (live : Nat)) (.bool on) (.int .u64 (est : Nat)) (.int .u64 (room : Nat)) (.int .u64 (credit : Nat)) (.int .u64 (done : Nat)) (.int .u64 (made : Nat)) (.slice A ds.length c) 51).later ((Below.refl _ _).alloc (Nat.le_refl _) (.cells #[.int .i64 0, .int .u64 0, .int .u64 0, .bool false, .int .u64 0, .int .u64 0, .int .u64 0, .int .u64 0, .int .u64 0, .slice none 0 0] 51))).later hb_w1
  have t1 := (Ten.new (w.alloc (.cells #[.int .i64 pct, .int .u64 (least : Nat), .int .u64 (live : Nat), .bool on, .int .u64 (est : Nat), .int .u64 (room : Nat), .int .u64 (credit : Nat), .int .u64 (done : Nat), .int .u64 (made : Nat), .slice A ds.length c] 51)) (.int .i64 0) (.int .u64 0) (.int .u64 0) (.bool false) (.int .u64 0) (.int .u64 0) (.int .u64 0) (.int .u64 0) (.int .u64 0) (.slice none 0 0) 51).later hb_w1
  simp only [World.size_alloc] at t0 t1 oA
  have oD := oA.d
  clear hc_w1 hf_w1 oA
  obtain ⟨x0, x1, x2, x3, x4, x5, x6, x7, x8, x9, xf⟩ := id t0
  obtain ⟨y0, y1, y2, y3, y4, y5, y6, y7, y8, y9, yf⟩ := id t1
  have t0' := t0.set9 (.slice A1 ds.length c1)
  have t1' := t1.far (p := ⟨w.heap.size, 9, none⟩) (by show w.heap.size ≠ w.heap.size + 1; omega) (.slice A1 ds.length c1)
  have oD' := oD.far (p := ⟨w.heap.size, 9, none⟩) (.inl (by show w.heap.size < w.heap.size + 1 + 1; omega)) (.slice A1 ds.length c1)
  go_wp2
  exact bodyPost_ret (res_pw1 rfl rfl (t1'.all _ _ _ _ _ _ _ _ _ _)) rfl ⟨A1, c1, rfl, (oD'.ten (.inl (by omega)) _ _ _ _ _ _ _ _ _ _).mono (by omega), below_ten (b1.setCell (p := ⟨w.heap.size, 9, none⟩) (Nat.le_refl _) _) (by omega) _ _ _ _ _ _ _ _ _ _⟩
end
end Go.Proofs.Ytkdbcoibapcmjaa
