/- ME, in one text: S27, S28, S29, S30. -/
import Derived.Test.YthphefoohkofbaaMD
/- The questions about spans whose answers the document gives (lives). -/
namespace Go.Proofs.Ythphefoohkofbaa
open Go.RowKit
set_option linter.unusedVariables false
set_option linter.unusedSimpArgs false

def sL : Sd := ⟨1, 1, 4, 4, [4], 4, [0], true⟩
theorem rightN (n : Int) (x : Nat) (h0 : 1 ≤ n) (h1 : n ≤ 64) (h : ∀ i : Fin 64, n.toNat ≤ i.val → tb [x] i.val = false) : Right n [x] :=
  ⟨by omega, by omega, by simp; omega, fun i h2 h3 => h ⟨i, by simpa using h3⟩ h2⟩
theorem okSL : Ok1 sL := by
  refine ⟨by decide, by decide, rightN 4 4 (by decide) (by decide) (by decide), by decide, rightN 4 0 (by decide) (by decide) (by decide), by decide, ?_⟩
  have : ∀ i, i < 4 → tb [0] i = true → tb [4] i = true := by decide
  exact fun i hi => this i (by rwa [show (slotsOf sL.z).toNat = 4 by decide] at hi)
theorem okLL : OkL [sL] := (okl_one sL).2 okSL
theorem okL_nil : OkL [] := ⟨by simp, fun i hi => by simp at hi, fun i hi => by simp at hi⟩
theorem addL1 : AddE [] sL [sL] 0 := .inr (.inr ⟨0, okL_nil, okSL, .inl ⟨.inl ⟨rfl, fun i hi => by simp at hi⟩, rfl⟩, .inr (.inr ⟨fun h => absurd h.1 (by decide), by decide, rfl, rfl⟩)⟩)
theorem idxL (p : Sd → Bool) (h : p sL = true) : IdxE [sL] p (0 : Nat) := .inr ⟨0, rfl, by decide, h, fun j hj => by omega⟩
theorem addL2 : AddE [sL] sL [sL] 4 := .inr (.inr ⟨0, okLL, okSL, .inr (idxL _ (by decide)), .inl ⟨⟨by decide, by decide⟩, rfl, rfl⟩⟩)
theorem findL1 : FindE [sL] 24 0 2 0 := .inr (.inr ⟨0, okLL, idxL _ (by decide), .inr ⟨2, .inr ⟨2, rfl, by decide, by decide, by decide⟩, rfl, rfl, rfl⟩⟩)
theorem findL2 : FindE [sL] 20 0 0 10 := .inr (.inr ⟨0, okLL, idxL _ (by decide), .inl ⟨.inl ⟨rfl, by decide⟩, rfl, rfl, rfl⟩⟩)
theorem findL3 : FindE [sL] 32 0 0 3 := .inr (.inl ⟨okLL, .inl ⟨rfl, by decide⟩, rfl, rfl, rfl⟩)
theorem roomL : RoomE [sL] 4 0 0 0 := .inr (.inr ⟨0, 0, okLL, idxL _ (by decide), .inr ⟨0, rfl, by decide, by decide, by decide⟩, rfl, rfl, rfl⟩)
theorem addrL : AddrE sL 2 24 0 := .inl ⟨okSL, by decide, by decide, by decide, rfl⟩
theorem dropL : DropE [sL] 1 [] 0 := .inr (.inr ⟨0, okLL, idxL _ (by decide), rfl, rfl⟩)
theorem OwnsS.cap_ {w : World} {B n cap : Nat} {A : Option Addr} {vs : List Sv} (h : OwnsS w B A n cap vs) : n ≤ cap := (owns_cap h.row_).1
theorem OwnsS.nil_ {w : World} {B n cap : Nat} {A : Option Addr} {vs : List Sv} (h : OwnsS w B A n cap vs) : A = none → cap = 0 := (owns_cap h.row_).2
set_option maxHeartbeats 4000000 in
set_option maxRecDepth 100000 in
theorem slives_any (w : World) : Calls Try.prog 17 #[] w fun e w' => e = .returned (.bool true) ∧ Below w.heap.size w w' := by
  have H1 : Hid (∀ W : World, Calls Try.prog 11 #[.int .i64 1, .int .i64 1, .int .i64 4] W fun e W' => ∃ A ca M cm, e = .returned (.tuple #[.agg #[.int .i64 1, .int .i64 1, .int .i64 4, .int .i64 4, .slice A 1 ca, .int .i64 4, .slice M 1 cm, .bool true], .int .i64 0]) ∧ Own W' W.heap.size A [0] ∧ Own W' W.heap.size M [0] ∧ Below W.heap.size W W') := Lib.hid fun W => by
    have h := sMake_ok (w := W) 1 1 4 (by decide) (by decide)
    have e : newSd 1 1 4 = ⟨1, 1, 4, 4, [0], 4, [0], true⟩ := by
      unfold newSd
      rw [show slotsOf 4 = 4 by decide, show wordsN 4 = [0] by decide]
    unfold FreshS at h
    rw [e] at h
    exact h
  have H2 : Hid (∀ (W : World) (A : Option Addr) (ca : Nat), Row W W.heap.size A [0] → Calls Try.prog 43 #[.agg #[.int .i64 4, .slice A 1 ca], .int .i64 2, .bool true] W fun e W' => ∃ B cb, e = .returned (.tuple #[.agg #[.int .i64 4, .slice B 1 cb], .int .i64 0]) ∧ Own W' W.heap.size B [4] ∧ Below W.heap.size W W') := Lib.hid fun W A ca hr => by
    have h := put_in (N := 4) (A := A) (ws := [0]) (w := W) ca true 2 hr (rightN 4 0 (by decide) (by decide) (by decide)) (by decide) (by decide)
    unfold Fresh at h
    rw [show putW [0] (2 : Int).toNat true = [4] by decide] at h
    exact h
  have H3 : Hid (∀ (W : World) (As Ms : Option Addr) (ca cm : Nat), Row W W.heap.size As [4] → Row W W.heap.size Ms [0] → Calls Try.prog 26 #[.slice none 0 0, .agg #[.int .i64 1, .int .i64 1, .int .i64 4, .int .i64 4, .slice As 1 ca, .int .i64 4, .slice Ms 1 cm, .bool true]] W fun e W' => ∃ A c vs, e = .returned (.tuple #[.slice A 1 c, .int .i64 0]) ∧ sdsOf vs = [sL] ∧ OwnsS W' W.heap.size A 1 c vs ∧ Below W.heap.size W W') := Lib.hid fun W As Ms ca cm ha hm =>
    sadd_any (w := W) (A := none) (l := []) 0 ca cm (SRow.nil _ _ _) (by simp) (by simp) (fun _ => rfl) sL ha hm _ _ addL1
  have HF : Hid (∀ (W : World) (A : Option Addr) (cap a : Nat) (x k y : Int), FindE [sL] a x k y → SRow W W.heap.size A [sL] → Calls Try.prog 21 #[.slice A 1 cap, .int .u64 (a : Nat)] W fun e W' => e = .returned (.tuple #[.int .i64 x, .int .i64 k, .int .i64 y]) ∧ Below W.heap.size W W') := Lib.hid fun W A cap a x k y hF hr =>
    sfind_any (w := W) (A := A) (l := [sL]) cap hr (by simp) a x k y hF
  have F1 : Hid (∀ (W : World) (A : Option Addr) (cap : Nat), SRow W W.heap.size A [sL] → Calls Try.prog 21 #[.slice A 1 cap, .int .u64 24] W fun e W' => e = .returned (.tuple #[.int .i64 0, .int .i64 2, .int .i64 0]) ∧ Below W.heap.size W W') := Lib.hid fun W A cap hr => HF.out W A cap 24 0 2 0 findL1 hr
  have F2 : Hid (∀ (W : World) (A : Option Addr) (cap : Nat), SRow W W.heap.size A [sL] → Calls Try.prog 21 #[.slice A 1 cap, .int .u64 20] W fun e W' => e = .returned (.tuple #[.int .i64 0, .int .i64 0, .int .i64 10]) ∧ Below W.heap.size W W') := Lib.hid fun W A cap hr => HF.out W A cap 20 0 0 10 findL2 hr
  have F3 : Hid (∀ (W : World) (A : Option Addr) (cap : Nat), SRow W W.heap.size A [sL] → Calls Try.prog 21 #[.slice A 1 cap, .int .u64 32] W fun e W' => e = .returned (.tuple #[.int .i64 0, .int .i64 0, .int .i64 3]) ∧ Below W.heap.size W W') := Lib.hid fun W A cap hr => HF.out W A cap 32 0 0 3 findL3 hr
  have HA : Hid (∀ (W : World) (As Ms : Option Addr) (ca cm : Nat), Row W W.heap.size As [4] → Row W W.heap.size Ms [0] → Calls Try.prog 15 #[.agg #[.int .i64 1, .int .i64 1, .int .i64 4, .int .i64 4, .slice As 1 ca, .int .i64 4, .slice Ms 1 cm, .bool true], .int .i64 2] W fun e W' => e = .returned (.tuple #[.int .u64 24, .int .i64 0]) ∧ Below W.heap.size W W') := Lib.hid fun W As Ms ca cm ha hm =>
    sAddr_any (w := W) (d := sL) (A := As) (M := Ms) ca cm ha hm 2 24 0 addrL
  have HS : Hid (∀ (W : World) (As Ms : Option Addr) (ca cm : Nat), Row W W.heap.size As [4] → Row W W.heap.size Ms [0] → Calls Try.prog 13 #[.agg #[.int .i64 1, .int .i64 1, .int .i64 4, .int .i64 4, .slice As 1 ca, .int .i64 4, .slice Ms 1 cm, .bool true]] W fun e W' => e = .returned (.tuple #[.int .i64 4, .int .i64 0]) ∧ Below W.heap.size W W') := Lib.hid fun W As Ms ca cm ha hm =>
    sSlots_any (w := W) (d := sL) (A := As) (M := Ms) ca cm ha hm 4 0 (.inl ⟨okSL, by decide, rfl⟩)
  have HR : Hid (∀ (W : World) (A : Option Addr) (cap : Nat), SRow W W.heap.size A [sL] → Calls Try.prog 23 #[.slice A 1 cap, .int .i64 4] W fun e W' => e = .returned (.tuple #[.int .i64 0, .int .i64 0, .int .i64 0]) ∧ Below W.heap.size W W') := Lib.hid fun W A cap hr =>
    sroom_any (w := W) (A := A) (l := [sL]) cap hr (by simp) 4 0 0 0 roomL
  have H4 : Hid (∀ (W : World) (A As Ms : Option Addr) (cap ca cm : Nat), SRow W W.heap.size A [sL] → 1 ≤ cap → (A = none → cap = 0) → Row W W.heap.size As [4] → Row W W.heap.size Ms [0] → Calls Try.prog 26 #[.slice A 1 cap, .agg #[.int .i64 1, .int .i64 1, .int .i64 4, .int .i64 4, .slice As 1 ca, .int .i64 4, .slice Ms 1 cm, .bool true]] W fun e W' => ∃ A c vs, e = .returned (.tuple #[.slice A 1 c, .int .i64 4]) ∧ sdsOf vs = [sL] ∧ OwnsS W' W.heap.size A 1 c vs ∧ Below W.heap.size W W') := Lib.hid fun W A As Ms cap ca cm hr hc hn ha hm =>
    sadd_any (w := W) (A := A) (l := [sL]) cap ca cm hr hc (by simp) hn sL ha hm _ _ addL2
  have H5 : Hid (∀ (W : World) (A : Option Addr) (cap : Nat), SRow W W.heap.size A [sL] → 1 ≤ cap → Calls Try.prog 28 #[.slice A 1 cap, .int .i64 1] W fun e W' => ∃ A c vs, e = .returned (.tuple #[.slice A 0 c, .int .i64 0]) ∧ sdsOf vs = [] ∧ OwnsS W' W.heap.size A 0 c vs ∧ Below W.heap.size W W') := Lib.hid fun W A cap hr hc =>
    sdrop_any (w := W) (A := A) (l := [sL]) cap hr hc (by simp) 1 _ _ dropL
  have HC : Hid (∀ (W : World) (A : Option Addr) (cap : Nat), SRow W W.heap.size A [sL] → Calls Try.prog 19 #[.slice A 1 cap] W fun e W' => e = .returned (.int .i64 0) ∧ Below W.heap.size W W') := Lib.hid fun W A cap hr =>
    scheck_any (w := W) (A := A) (l := [sL]) cap hr (by simp) 0 (.inl ⟨okLL, rfl⟩)
  clear HF
  go_enter Try.func17, Try.ntmps17
  go_wp2_with fail
  go_at_call 11
  refine (H1.out _).mono ?_
  rintro e w1 ⟨Aa, ca, Ma, cm, rfl, oa, om, hb_w1⟩
  obtain ⟨hc_w1, hf_w1⟩ := bcell hb_w1; have hs_w1 := hb_w1.size; (try simp only [World.size_alloc, World.size_setCell, World.size_drew, World.heap_drewN] at hs_w1)
  have b1 : Below w.heap.size w w1 := (by repeat (first | exact Below.refl _ _ | assumption | (refine below_drewN ?_ _) | (refine Below.drew ?_) | (refine Below.alloc ?_ (by first | omega | (simp; omega) | simp) _) | (refine Below.setCell ?_ (by first | omega | (simp; omega) | simp) _) | (refine below_trans ?_ (by assumption) (by first | omega | (simp; omega) | simp))))
  clear hc_w1 hf_w1
  go_wp2_with fail
  go_at_call 43
  refine (H2.out _ _ _ (oa.row.later (by repeat (first | exact Below.refl _ _ | assumption | (refine below_drewN ?_ _) | (refine Below.drew ?_) | (refine Below.alloc ?_ (by first | omega | (simp; omega) | simp) _) | (refine Below.setCell ?_ (by first | omega | (simp; omega) | simp) _) | (refine below_trans ?_ (by assumption) (by first | omega | (simp; omega) | simp)))))).mono ?_
  rintro e w2 ⟨A2, c2, rfl, o2, hb_w2⟩
  obtain ⟨hc_w2, hf_w2⟩ := bcell hb_w2
  have hs2 := hb_w2.size
  (try simp only [World.size_alloc] at hs2)
  have b12 : Below w1.heap.size w1 w2 := below_trans ((Below.refl w1.heap.size w1).alloc (Nat.le_refl _) _) hb_w2 (by simp)
  have b2 : Below w.heap.size w w2 := b1.trans (b12.mono (by first | omega | (simp; omega) | simp))
  have g0 : w1.heap.size < w2.heap.size := by omega
  have p0 : w2.cell? ⟨w1.heap.size, 0, none⟩ = some (.int .i64 1) := (hc_w2 _ _ (by first | omega | (simp; omega) | simp)).trans (by simp [go_sem])
  have p1 : w2.cell? ⟨w1.heap.size, 1, none⟩ = some (.int .i64 1) := (hc_w2 _ _ (by first | omega | (simp; omega) | simp)).trans (by simp [go_sem])
  have p2 : w2.cell? ⟨w1.heap.size, 2, none⟩ = some (.int .i64 4) := (hc_w2 _ _ (by first | omega | (simp; omega) | simp)).trans (by simp [go_sem])
  have p3 : w2.cell? ⟨w1.heap.size, 3, none⟩ = some (.int .i64 4) := (hc_w2 _ _ (by first | omega | (simp; omega) | simp)).trans (by simp [go_sem])
  have p4 : w2.cell? ⟨w1.heap.size, 4, none⟩ = some (.slice Aa 1 ca) := (hc_w2 _ _ (by first | omega | (simp; omega) | simp)).trans (by simp [go_sem])
  have p5 : w2.cell? ⟨w1.heap.size, 5, none⟩ = some (.int .i64 4) := (hc_w2 _ _ (by first | omega | (simp; omega) | simp)).trans (by simp [go_sem])
  have p6 : w2.cell? ⟨w1.heap.size, 6, none⟩ = some (.slice Ma 1 cm) := (hc_w2 _ _ (by first | omega | (simp; omega) | simp)).trans (by simp [go_sem])
  have p7 : w2.cell? ⟨w1.heap.size, 7, none⟩ = some (.bool true) := (hc_w2 _ _ (by first | omega | (simp; omega) | simp)).trans (by simp [go_sem])
  have f3 : w2.frozen? ⟨w1.heap.size, 3, none⟩ = false := (hf_w2 _ _ (by first | omega | (simp; omega) | simp)).trans (by simp [go_sem])
  have f4 : w2.frozen? ⟨w1.heap.size, 4, none⟩ = false := (hf_w2 _ _ (by first | omega | (simp; omega) | simp)).trans (by simp [go_sem])
  clear hc_w2 hf_w2
  go_wp2_with fail
  generalize hWS : (w2.setCell ⟨w1.heap.size, 3, none⟩ (.int .i64 4)).setCell ⟨w1.heap.size, 4, none⟩ (.slice A2 1 c2) = wS at *
  have q0 : wS.cell? ⟨w1.heap.size, 0, none⟩ = some (.int .i64 1) := by rw [← hWS]; simp [go_sem, p0]
  have q1 : wS.cell? ⟨w1.heap.size, 1, none⟩ = some (.int .i64 1) := by rw [← hWS]; simp [go_sem, p1]
  have q2 : wS.cell? ⟨w1.heap.size, 2, none⟩ = some (.int .i64 4) := by rw [← hWS]; simp [go_sem, p2]
  have q3 : wS.cell? ⟨w1.heap.size, 3, none⟩ = some (.int .i64 4) := by rw [← hWS]; simp [go_sem, p3]
  have q4 : wS.cell? ⟨w1.heap.size, 4, none⟩ = some (.slice A2 1 c2) := by rw [← hWS]; simp [go_sem, p4]
  have q5 : wS.cell? ⟨w1.heap.size, 5, none⟩ = some (.int .i64 4) := by rw [← hWS]; simp [go_sem, p5]
  have q6 : wS.cell? ⟨w1.heap.size, 6, none⟩ = some (.slice Ma 1 cm) := by rw [← hWS]; simp [go_sem, p6]
  have q7 : wS.cell? ⟨w1.heap.size, 7, none⟩ = some (.bool true) := by rw [← hWS]; simp [go_sem, p7]
  have hzS : wS.heap.size = w2.heap.size := by rw [← hWS]; simp
  have rA : Row wS wS.heap.size A2 [4] := by rw [← hWS]; exact ((o2.mono (B' := w1.heap.size + 1) (by first | omega | (simp; omega) | simp)).far (p := ⟨w1.heap.size, 3, none⟩) (.inl (Nat.lt_succ_self _)) _ |>.far (p := ⟨w1.heap.size, 4, none⟩) (.inl (Nat.lt_succ_self _)) _).row
  have rM : Row wS wS.heap.size Ma [0] := by
    rw [← hWS]
    obtain ⟨g, e, _, hg, _⟩ := om.at_ (by simp)
    exact (((om.later b12).off e (p := ⟨w1.heap.size, 3, none⟩) (by show w1.heap.size ≠ g; omega) _).off e (p := ⟨w1.heap.size, 4, none⟩) (by show w1.heap.size ≠ g; omega) _).row
  have bS : Below w.heap.size w wS := by rw [← hWS]; exact (b2.setCell (p := ⟨w1.heap.size, 3, none⟩) (by first | omega | (simp; omega) | simp) _).setCell (p := ⟨w1.heap.size, 4, none⟩) (by first | omega | (simp; omega) | simp) _
  clear hWS p0 p1 p2 p3 p4 p5 p6 p7 f3 f4 oa om o2 b12
  go_at_call 26
  refine (H3.out _ _ _ _ _ rA rM).mono ?_
  rintro e w3 ⟨A3, c3, v3, rfl, h3, o3, hb_w3⟩
  have hs3 := hb_w3.size
  have s3 : SRow w3 w3.heap.size A3 [sL] := by rw [← h3]; exact o3.srow
  have k3 := o3.cap_
  have n3 := o3.nil_
  have b3 : Below w.heap.size w w3 := bS.trans (hb_w3.mono (by omega))
  have Q30 : w3.cell? ⟨w1.heap.size, 0, none⟩ = some (.int .i64 1) := (hb_w3.cell (p := ⟨w1.heap.size, 0, none⟩) (by first | omega | (simp; omega) | simp)).trans q0
  have Q31 : w3.cell? ⟨w1.heap.size, 1, none⟩ = some (.int .i64 1) := (hb_w3.cell (p := ⟨w1.heap.size, 1, none⟩) (by first | omega | (simp; omega) | simp)).trans q1
  have Q32 : w3.cell? ⟨w1.heap.size, 2, none⟩ = some (.int .i64 4) := (hb_w3.cell (p := ⟨w1.heap.size, 2, none⟩) (by first | omega | (simp; omega) | simp)).trans q2
  have Q33 : w3.cell? ⟨w1.heap.size, 3, none⟩ = some (.int .i64 4) := (hb_w3.cell (p := ⟨w1.heap.size, 3, none⟩) (by first | omega | (simp; omega) | simp)).trans q3
  have Q34 : w3.cell? ⟨w1.heap.size, 4, none⟩ = some (.slice A2 1 c2) := (hb_w3.cell (p := ⟨w1.heap.size, 4, none⟩) (by first | omega | (simp; omega) | simp)).trans q4
  have Q35 : w3.cell? ⟨w1.heap.size, 5, none⟩ = some (.int .i64 4) := (hb_w3.cell (p := ⟨w1.heap.size, 5, none⟩) (by first | omega | (simp; omega) | simp)).trans q5
  have Q36 : w3.cell? ⟨w1.heap.size, 6, none⟩ = some (.slice Ma 1 cm) := (hb_w3.cell (p := ⟨w1.heap.size, 6, none⟩) (by first | omega | (simp; omega) | simp)).trans q6
  have Q37 : w3.cell? ⟨w1.heap.size, 7, none⟩ = some (.bool true) := (hb_w3.cell (p := ⟨w1.heap.size, 7, none⟩) (by first | omega | (simp; omega) | simp)).trans q7
  have rA3 := rA.later hb_w3
  have rM3 := rM.later hb_w3
  clear q0 q1 q2 q3 q4 q5 q6 q7 rA rM
  go_wp2_with fail
  go_at_call 21
  refine (F1.out _ _ _ s3).mono ?_
  rintro e w4 ⟨rfl, hb_w4⟩
  have hs4 := hb_w4.size
  have b4 : Below w.heap.size w w4 := b3.trans (hb_w4.mono (by omega))
  have s4 := s3.later hb_w4
  have Q40 : w4.cell? ⟨w1.heap.size, 0, none⟩ = some (.int .i64 1) := (hb_w4.cell (p := ⟨w1.heap.size, 0, none⟩) (by first | omega | (simp; omega) | simp)).trans Q30
  have Q41 : w4.cell? ⟨w1.heap.size, 1, none⟩ = some (.int .i64 1) := (hb_w4.cell (p := ⟨w1.heap.size, 1, none⟩) (by first | omega | (simp; omega) | simp)).trans Q31
  have Q42 : w4.cell? ⟨w1.heap.size, 2, none⟩ = some (.int .i64 4) := (hb_w4.cell (p := ⟨w1.heap.size, 2, none⟩) (by first | omega | (simp; omega) | simp)).trans Q32
  have Q43 : w4.cell? ⟨w1.heap.size, 3, none⟩ = some (.int .i64 4) := (hb_w4.cell (p := ⟨w1.heap.size, 3, none⟩) (by first | omega | (simp; omega) | simp)).trans Q33
  have Q44 : w4.cell? ⟨w1.heap.size, 4, none⟩ = some (.slice A2 1 c2) := (hb_w4.cell (p := ⟨w1.heap.size, 4, none⟩) (by first | omega | (simp; omega) | simp)).trans Q34
  have Q45 : w4.cell? ⟨w1.heap.size, 5, none⟩ = some (.int .i64 4) := (hb_w4.cell (p := ⟨w1.heap.size, 5, none⟩) (by first | omega | (simp; omega) | simp)).trans Q35
  have Q46 : w4.cell? ⟨w1.heap.size, 6, none⟩ = some (.slice Ma 1 cm) := (hb_w4.cell (p := ⟨w1.heap.size, 6, none⟩) (by first | omega | (simp; omega) | simp)).trans Q36
  have Q47 : w4.cell? ⟨w1.heap.size, 7, none⟩ = some (.bool true) := (hb_w4.cell (p := ⟨w1.heap.size, 7, none⟩) (by first | omega | (simp; omega) | simp)).trans Q37
  have rA4 := rA3.later hb_w4
  have rM4 := rM3.later hb_w4
  clear Q30 Q31 Q32 Q33 Q34 Q35 Q36 Q37 rA3 rM3
  clear s3
  go_wp2_with fail
  go_at_call 21
  refine (F2.out _ _ _ s4).mono ?_
  rintro e w5 ⟨rfl, hb_w5⟩
  have hs5 := hb_w5.size
  have b5 : Below w.heap.size w w5 := b4.trans (hb_w5.mono (by omega))
  have s5 := s4.later hb_w5
  have Q50 : w5.cell? ⟨w1.heap.size, 0, none⟩ = some (.int .i64 1) := (hb_w5.cell (p := ⟨w1.heap.size, 0, none⟩) (by first | omega | (simp; omega) | simp)).trans Q40
  have Q51 : w5.cell? ⟨w1.heap.size, 1, none⟩ = some (.int .i64 1) := (hb_w5.cell (p := ⟨w1.heap.size, 1, none⟩) (by first | omega | (simp; omega) | simp)).trans Q41
  have Q52 : w5.cell? ⟨w1.heap.size, 2, none⟩ = some (.int .i64 4) := (hb_w5.cell (p := ⟨w1.heap.size, 2, none⟩) (by first | omega | (simp; omega) | simp)).trans Q42
  have Q53 : w5.cell? ⟨w1.heap.size, 3, none⟩ = some (.int .i64 4) := (hb_w5.cell (p := ⟨w1.heap.size, 3, none⟩) (by first | omega | (simp; omega) | simp)).trans Q43
  have Q54 : w5.cell? ⟨w1.heap.size, 4, none⟩ = some (.slice A2 1 c2) := (hb_w5.cell (p := ⟨w1.heap.size, 4, none⟩) (by first | omega | (simp; omega) | simp)).trans Q44
  have Q55 : w5.cell? ⟨w1.heap.size, 5, none⟩ = some (.int .i64 4) := (hb_w5.cell (p := ⟨w1.heap.size, 5, none⟩) (by first | omega | (simp; omega) | simp)).trans Q45
  have Q56 : w5.cell? ⟨w1.heap.size, 6, none⟩ = some (.slice Ma 1 cm) := (hb_w5.cell (p := ⟨w1.heap.size, 6, none⟩) (by first | omega | (simp; omega) | simp)).trans Q46
  have Q57 : w5.cell? ⟨w1.heap.size, 7, none⟩ = some (.bool true) := (hb_w5.cell (p := ⟨w1.heap.size, 7, none⟩) (by first | omega | (simp; omega) | simp)).trans Q47
  have rA5 := rA4.later hb_w5
  have rM5 := rM4.later hb_w5
  clear Q40 Q41 Q42 Q43 Q44 Q45 Q46 Q47 rA4 rM4
  clear s4
  go_wp2_with fail
  go_at_call 21
  refine (F3.out _ _ _ s5).mono ?_
  rintro e w6 ⟨rfl, hb_w6⟩
  have hs6 := hb_w6.size
  have b6 : Below w.heap.size w w6 := b5.trans (hb_w6.mono (by omega))
  have s6 := s5.later hb_w6
  have Q60 : w6.cell? ⟨w1.heap.size, 0, none⟩ = some (.int .i64 1) := (hb_w6.cell (p := ⟨w1.heap.size, 0, none⟩) (by first | omega | (simp; omega) | simp)).trans Q50
  have Q61 : w6.cell? ⟨w1.heap.size, 1, none⟩ = some (.int .i64 1) := (hb_w6.cell (p := ⟨w1.heap.size, 1, none⟩) (by first | omega | (simp; omega) | simp)).trans Q51
  have Q62 : w6.cell? ⟨w1.heap.size, 2, none⟩ = some (.int .i64 4) := (hb_w6.cell (p := ⟨w1.heap.size, 2, none⟩) (by first | omega | (simp; omega) | simp)).trans Q52
  have Q63 : w6.cell? ⟨w1.heap.size, 3, none⟩ = some (.int .i64 4) := (hb_w6.cell (p := ⟨w1.heap.size, 3, none⟩) (by first | omega | (simp; omega) | simp)).trans Q53
  have Q64 : w6.cell? ⟨w1.heap.size, 4, none⟩ = some (.slice A2 1 c2) := (hb_w6.cell (p := ⟨w1.heap.size, 4, none⟩) (by first | omega | (simp; omega) | simp)).trans Q54
  have Q65 : w6.cell? ⟨w1.heap.size, 5, none⟩ = some (.int .i64 4) := (hb_w6.cell (p := ⟨w1.heap.size, 5, none⟩) (by first | omega | (simp; omega) | simp)).trans Q55
  have Q66 : w6.cell? ⟨w1.heap.size, 6, none⟩ = some (.slice Ma 1 cm) := (hb_w6.cell (p := ⟨w1.heap.size, 6, none⟩) (by first | omega | (simp; omega) | simp)).trans Q56
  have Q67 : w6.cell? ⟨w1.heap.size, 7, none⟩ = some (.bool true) := (hb_w6.cell (p := ⟨w1.heap.size, 7, none⟩) (by first | omega | (simp; omega) | simp)).trans Q57
  have rA6 := rA5.later hb_w6
  have rM6 := rM5.later hb_w6
  clear Q50 Q51 Q52 Q53 Q54 Q55 Q56 Q57 rA5 rM5
  clear s5
  go_wp2_with fail
  go_at_call 15
  refine (HA.out _ _ _ _ _ rA6 rM6).mono ?_
  rintro e w7 ⟨rfl, hb_w7⟩
  have hs7 := hb_w7.size
  have b7 : Below w.heap.size w w7 := b6.trans (hb_w7.mono (by omega))
  have s7 := s6.later hb_w7
  have Q70 : w7.cell? ⟨w1.heap.size, 0, none⟩ = some (.int .i64 1) := (hb_w7.cell (p := ⟨w1.heap.size, 0, none⟩) (by first | omega | (simp; omega) | simp)).trans Q60
  have Q71 : w7.cell? ⟨w1.heap.size, 1, none⟩ = some (.int .i64 1) := (hb_w7.cell (p := ⟨w1.heap.size, 1, none⟩) (by first | omega | (simp; omega) | simp)).trans Q61
  have Q72 : w7.cell? ⟨w1.heap.size, 2, none⟩ = some (.int .i64 4) := (hb_w7.cell (p := ⟨w1.heap.size, 2, none⟩) (by first | omega | (simp; omega) | simp)).trans Q62
  have Q73 : w7.cell? ⟨w1.heap.size, 3, none⟩ = some (.int .i64 4) := (hb_w7.cell (p := ⟨w1.heap.size, 3, none⟩) (by first | omega | (simp; omega) | simp)).trans Q63
  have Q74 : w7.cell? ⟨w1.heap.size, 4, none⟩ = some (.slice A2 1 c2) := (hb_w7.cell (p := ⟨w1.heap.size, 4, none⟩) (by first | omega | (simp; omega) | simp)).trans Q64
  have Q75 : w7.cell? ⟨w1.heap.size, 5, none⟩ = some (.int .i64 4) := (hb_w7.cell (p := ⟨w1.heap.size, 5, none⟩) (by first | omega | (simp; omega) | simp)).trans Q65
  have Q76 : w7.cell? ⟨w1.heap.size, 6, none⟩ = some (.slice Ma 1 cm) := (hb_w7.cell (p := ⟨w1.heap.size, 6, none⟩) (by first | omega | (simp; omega) | simp)).trans Q66
  have Q77 : w7.cell? ⟨w1.heap.size, 7, none⟩ = some (.bool true) := (hb_w7.cell (p := ⟨w1.heap.size, 7, none⟩) (by first | omega | (simp; omega) | simp)).trans Q67
  have rA7 := rA6.later hb_w7
  have rM7 := rM6.later hb_w7
  clear Q60 Q61 Q62 Q63 Q64 Q65 Q66 Q67 rA6 rM6
  clear s6
  go_wp2_with fail
  go_at_call 13
  refine (HS.out _ _ _ _ _ rA7 rM7).mono ?_
  rintro e w8 ⟨rfl, hb_w8⟩
  have hs8 := hb_w8.size
  have b8 : Below w.heap.size w w8 := b7.trans (hb_w8.mono (by omega))
  have s8 := s7.later hb_w8
  have Q80 : w8.cell? ⟨w1.heap.size, 0, none⟩ = some (.int .i64 1) := (hb_w8.cell (p := ⟨w1.heap.size, 0, none⟩) (by first | omega | (simp; omega) | simp)).trans Q70
  have Q81 : w8.cell? ⟨w1.heap.size, 1, none⟩ = some (.int .i64 1) := (hb_w8.cell (p := ⟨w1.heap.size, 1, none⟩) (by first | omega | (simp; omega) | simp)).trans Q71
  have Q82 : w8.cell? ⟨w1.heap.size, 2, none⟩ = some (.int .i64 4) := (hb_w8.cell (p := ⟨w1.heap.size, 2, none⟩) (by first | omega | (simp; omega) | simp)).trans Q72
  have Q83 : w8.cell? ⟨w1.heap.size, 3, none⟩ = some (.int .i64 4) := (hb_w8.cell (p := ⟨w1.heap.size, 3, none⟩) (by first | omega | (simp; omega) | simp)).trans Q73
  have Q84 : w8.cell? ⟨w1.heap.size, 4, none⟩ = some (.slice A2 1 c2) := (hb_w8.cell (p := ⟨w1.heap.size, 4, none⟩) (by first | omega | (simp; omega) | simp)).trans Q74
  have Q85 : w8.cell? ⟨w1.heap.size, 5, none⟩ = some (.int .i64 4) := (hb_w8.cell (p := ⟨w1.heap.size, 5, none⟩) (by first | omega | (simp; omega) | simp)).trans Q75
  have Q86 : w8.cell? ⟨w1.heap.size, 6, none⟩ = some (.slice Ma 1 cm) := (hb_w8.cell (p := ⟨w1.heap.size, 6, none⟩) (by first | omega | (simp; omega) | simp)).trans Q76
  have Q87 : w8.cell? ⟨w1.heap.size, 7, none⟩ = some (.bool true) := (hb_w8.cell (p := ⟨w1.heap.size, 7, none⟩) (by first | omega | (simp; omega) | simp)).trans Q77
  have rA8 := rA7.later hb_w8
  have rM8 := rM7.later hb_w8
  clear Q70 Q71 Q72 Q73 Q74 Q75 Q76 Q77 rA7 rM7
  clear s7
  go_wp2_with fail
  go_at_call 23
  refine (HR.out _ _ _ s8).mono ?_
  rintro e w9 ⟨rfl, hb_w9⟩
  have hs9 := hb_w9.size
  have b9 : Below w.heap.size w w9 := b8.trans (hb_w9.mono (by omega))
  have s9 := s8.later hb_w9
  have Q90 : w9.cell? ⟨w1.heap.size, 0, none⟩ = some (.int .i64 1) := (hb_w9.cell (p := ⟨w1.heap.size, 0, none⟩) (by first | omega | (simp; omega) | simp)).trans Q80
  have Q91 : w9.cell? ⟨w1.heap.size, 1, none⟩ = some (.int .i64 1) := (hb_w9.cell (p := ⟨w1.heap.size, 1, none⟩) (by first | omega | (simp; omega) | simp)).trans Q81
  have Q92 : w9.cell? ⟨w1.heap.size, 2, none⟩ = some (.int .i64 4) := (hb_w9.cell (p := ⟨w1.heap.size, 2, none⟩) (by first | omega | (simp; omega) | simp)).trans Q82
  have Q93 : w9.cell? ⟨w1.heap.size, 3, none⟩ = some (.int .i64 4) := (hb_w9.cell (p := ⟨w1.heap.size, 3, none⟩) (by first | omega | (simp; omega) | simp)).trans Q83
  have Q94 : w9.cell? ⟨w1.heap.size, 4, none⟩ = some (.slice A2 1 c2) := (hb_w9.cell (p := ⟨w1.heap.size, 4, none⟩) (by first | omega | (simp; omega) | simp)).trans Q84
  have Q95 : w9.cell? ⟨w1.heap.size, 5, none⟩ = some (.int .i64 4) := (hb_w9.cell (p := ⟨w1.heap.size, 5, none⟩) (by first | omega | (simp; omega) | simp)).trans Q85
  have Q96 : w9.cell? ⟨w1.heap.size, 6, none⟩ = some (.slice Ma 1 cm) := (hb_w9.cell (p := ⟨w1.heap.size, 6, none⟩) (by first | omega | (simp; omega) | simp)).trans Q86
  have Q97 : w9.cell? ⟨w1.heap.size, 7, none⟩ = some (.bool true) := (hb_w9.cell (p := ⟨w1.heap.size, 7, none⟩) (by first | omega | (simp; omega) | simp)).trans Q87
  have rA9 := rA8.later hb_w9
  have rM9 := rM8.later hb_w9
  clear Q80 Q81 Q82 Q83 Q84 Q85 Q86 Q87 rA8 rM8
  clear s8
  go_wp2_with fail
  go_at_call 26
  refine (H4.out _ _ _ _ _ _ _ s9 k3 n3 rA9 rM9).mono ?_
  rintro e w10 ⟨B10, d10, v10, rfl, g10, o10, hb_w10⟩
  have hs10 := hb_w10.size
  have b10 : Below w.heap.size w w10 := b9.trans (hb_w10.mono (by omega))
  have s10 := s9.later hb_w10
  have Q100 : w10.cell? ⟨w1.heap.size, 0, none⟩ = some (.int .i64 1) := (hb_w10.cell (p := ⟨w1.heap.size, 0, none⟩) (by first | omega | (simp; omega) | simp)).trans Q90
  have Q101 : w10.cell? ⟨w1.heap.size, 1, none⟩ = some (.int .i64 1) := (hb_w10.cell (p := ⟨w1.heap.size, 1, none⟩) (by first | omega | (simp; omega) | simp)).trans Q91
  have Q102 : w10.cell? ⟨w1.heap.size, 2, none⟩ = some (.int .i64 4) := (hb_w10.cell (p := ⟨w1.heap.size, 2, none⟩) (by first | omega | (simp; omega) | simp)).trans Q92
  have Q103 : w10.cell? ⟨w1.heap.size, 3, none⟩ = some (.int .i64 4) := (hb_w10.cell (p := ⟨w1.heap.size, 3, none⟩) (by first | omega | (simp; omega) | simp)).trans Q93
  have Q104 : w10.cell? ⟨w1.heap.size, 4, none⟩ = some (.slice A2 1 c2) := (hb_w10.cell (p := ⟨w1.heap.size, 4, none⟩) (by first | omega | (simp; omega) | simp)).trans Q94
  have Q105 : w10.cell? ⟨w1.heap.size, 5, none⟩ = some (.int .i64 4) := (hb_w10.cell (p := ⟨w1.heap.size, 5, none⟩) (by first | omega | (simp; omega) | simp)).trans Q95
  have Q106 : w10.cell? ⟨w1.heap.size, 6, none⟩ = some (.slice Ma 1 cm) := (hb_w10.cell (p := ⟨w1.heap.size, 6, none⟩) (by first | omega | (simp; omega) | simp)).trans Q96
  have Q107 : w10.cell? ⟨w1.heap.size, 7, none⟩ = some (.bool true) := (hb_w10.cell (p := ⟨w1.heap.size, 7, none⟩) (by first | omega | (simp; omega) | simp)).trans Q97
  have rA10 := rA9.later hb_w10
  have rM10 := rM9.later hb_w10
  clear Q90 Q91 Q92 Q93 Q94 Q95 Q96 Q97 rA9 rM9
  clear s9
  go_wp2_with fail
  go_at_call 28
  refine (H5.out _ _ _ s10 k3).mono ?_
  rintro e w11 ⟨B11, d11, v11, rfl, g11, o11, hb_w11⟩
  have hs11 := hb_w11.size
  have b11 : Below w.heap.size w w11 := b10.trans (hb_w11.mono (by omega))
  have s11 := s10.later hb_w11
  have Q110 : w11.cell? ⟨w1.heap.size, 0, none⟩ = some (.int .i64 1) := (hb_w11.cell (p := ⟨w1.heap.size, 0, none⟩) (by first | omega | (simp; omega) | simp)).trans Q100
  have Q111 : w11.cell? ⟨w1.heap.size, 1, none⟩ = some (.int .i64 1) := (hb_w11.cell (p := ⟨w1.heap.size, 1, none⟩) (by first | omega | (simp; omega) | simp)).trans Q101
  have Q112 : w11.cell? ⟨w1.heap.size, 2, none⟩ = some (.int .i64 4) := (hb_w11.cell (p := ⟨w1.heap.size, 2, none⟩) (by first | omega | (simp; omega) | simp)).trans Q102
  have Q113 : w11.cell? ⟨w1.heap.size, 3, none⟩ = some (.int .i64 4) := (hb_w11.cell (p := ⟨w1.heap.size, 3, none⟩) (by first | omega | (simp; omega) | simp)).trans Q103
  have Q114 : w11.cell? ⟨w1.heap.size, 4, none⟩ = some (.slice A2 1 c2) := (hb_w11.cell (p := ⟨w1.heap.size, 4, none⟩) (by first | omega | (simp; omega) | simp)).trans Q104
  have Q115 : w11.cell? ⟨w1.heap.size, 5, none⟩ = some (.int .i64 4) := (hb_w11.cell (p := ⟨w1.heap.size, 5, none⟩) (by first | omega | (simp; omega) | simp)).trans Q105
  have Q116 : w11.cell? ⟨w1.heap.size, 6, none⟩ = some (.slice Ma 1 cm) := (hb_w11.cell (p := ⟨w1.heap.size, 6, none⟩) (by first | omega | (simp; omega) | simp)).trans Q106
  have Q117 : w11.cell? ⟨w1.heap.size, 7, none⟩ = some (.bool true) := (hb_w11.cell (p := ⟨w1.heap.size, 7, none⟩) (by first | omega | (simp; omega) | simp)).trans Q107
  have rA11 := rA10.later hb_w11
  have rM11 := rM10.later hb_w11
  clear Q100 Q101 Q102 Q103 Q104 Q105 Q106 Q107 rA10 rM10
  clear s10
  go_wp2_with fail
  go_at_call 19
  refine (HC.out _ _ _ s11).mono ?_
  rintro e w12 ⟨rfl, hb_w12⟩
  go_wp2
  go_ret
  exact ⟨rfl, b11.trans (hb_w12.mono (by omega))⟩
end Go.Proofs.Ythphefoohkofbaa

/- The document's One, Copy, SameOne, Same of spans. -/
namespace Go.Proofs.Ythphefoohkofbaa
open Go.RowKit
set_option linter.unusedVariables false
set_option linter.unusedSimpArgs false

theorem res_span1 {fn : Func} {p : Tmp} (h : fn.results = #[.cell p 26]) {tmps : Array Value} {w : World} {g ca cm : Nat} {d : Sd} {A M : Option Addr} (hp : tmps.getD p undef = .pointer (some ⟨g, 0, none⟩))
    (h8 : Sp8 w g 0 d A ca M cm) : (results fn tmps).run Try.prog w = .ok (spv d A ca M cm) w := by
  have hp2 : tmps[p]?.getD undef = .pointer (some ⟨g, 0, none⟩) := by rw [← hp]; simp
  obtain ⟨c0, c1, c2, c3, c4, c5, c6, c7⟩ := h8
  simp only [Nat.zero_add] at c0 c1 c2 c3 c4 c5 c6 c7
  simp only [results, h]
  simp [go_sem, Result.andThen, c0, c1, c2, c3, c4, c5, c6, c7, asAddr, hp2, spv]
/-- a span of a call's own -/
def OneS (w : World) (d : Sd) (e : Ending) (w' : World) : Prop := ∃ A ca M cm, e = .returned (spv d A ca M cm) ∧ Own w' w.heap.size A d.aw ∧ Own w' w.heap.size M d.mw ∧ Below w.heap.size w w'
section
variable {w : World} {A M : Option Addr} (ca cm : Nat)
set_option maxHeartbeats 2000000 in
theorem xone_any (d : Sd) (hA : Row w w.heap.size A d.aw) (hM : Row w w.heap.size M d.mw) (la : d.aw.length ≤ 17592186044416) (lm : d.mw.length ≤ 17592186044416) :
    Calls Try.prog 33 #[spv d A ca M cm] w fun e w' => OneS w d e w' := by
  unfold OneS
  have HA := Lib.hid fun (w : World) hr => copy_any d.an (A := A) ca (ws := d.aw) (w := w) hr la
  have HM := Lib.hid fun (w : World) hr => copy_any d.mn (A := M) cm (ws := d.mw) (w := w) hr lm
  unfold Copied at HA HM
  obtain ⟨f, p, z, an, aw, mn, mw, s⟩ := d
  unfold spv
  simp only at *
  go_enter Try.func33, Try.ntmps33
  go_wp2_with fail
  go_at_call 62
  refine (HA.out _ (hA.later (by repeat (first | exact Below.refl _ _ | assumption | (refine below_drewN ?_ _) | (refine Below.drew ?_) | (refine Below.alloc ?_ (by first | omega | (simp; omega) | simp) _) | (refine Below.setCell ?_ (by first | omega | (simp; omega) | simp) _) | (refine below_trans ?_ (by assumption) (by first | omega | (simp; omega) | simp)))))).mono ?_
  rintro e w2 ⟨A2, c2, rfl, o2, hb_w2⟩
  obtain ⟨hc_w2, hf_w2⟩ := bcell hb_w2
  have hs2 := hb_w2.size
  (try simp only [World.size_alloc] at hs2)
  have b2 : Below w.heap.size w w2 := (by repeat (first | exact Below.refl _ _ | assumption | (refine below_drewN ?_ _) | (refine Below.drew ?_) | (refine Below.alloc ?_ (by first | omega | (simp; omega) | simp) _) | (refine Below.setCell ?_ (by first | omega | (simp; omega) | simp) _) | (refine below_trans ?_ (by assumption) (by first | omega | (simp; omega) | simp))))
  have X1 : Sp8 w2 w.heap.size 0 ⟨f, p, z, an, aw, mn, mw, s⟩ A ca M cm := by constructor <;> exact (hc_w2 _ _ (by first | omega | (simp; omega) | simp)).trans (by simp [go_sem])
  have Y1 : Sp8 w2 (w.heap.size + 1) 0 sd0 none 0 none 0 := by constructor <;> exact (hc_w2 _ _ (by first | omega | (simp; omega) | simp)).trans (by simp [go_sem, sd0])
  have z3 : w2.frozen? ⟨w.heap.size, 3, none⟩ = false := (hf_w2 _ _ (by first | omega | (simp; omega) | simp)).trans (by simp [go_sem])
  have z4 : w2.frozen? ⟨w.heap.size, 4, none⟩ = false := (hf_w2 _ _ (by first | omega | (simp; omega) | simp)).trans (by simp [go_sem])
  have z5 : w2.frozen? ⟨w.heap.size, 5, none⟩ = false := (hf_w2 _ _ (by first | omega | (simp; omega) | simp)).trans (by simp [go_sem])
  have z6 : w2.frozen? ⟨w.heap.size, 6, none⟩ = false := (hf_w2 _ _ (by first | omega | (simp; omega) | simp)).trans (by simp [go_sem])
  have y0 : ∀ i, w2.frozen? ⟨w.heap.size + 1, i, none⟩ = false := fun i => (hf_w2 _ _ (by first | omega | (simp; omega) | simp)).trans (by simp [go_sem])
  obtain ⟨x0, x1, x2, x3, x4, x5, x6, x7⟩ := id X1
  simp only [Nat.zero_add] at x0 x1 x2 x3 x4 x5 x6 x7
  have rM2 := hM.later b2
  clear hc_w2 hf_w2
  go_wp2_with fail
  generalize hWS : (w2.setCell ⟨w.heap.size, 3, none⟩ (.int .i64 an)).setCell ⟨w.heap.size, 4, none⟩ (.slice A2 aw.length c2) = wS at *
  have hzS : wS.heap.size = w2.heap.size := by rw [← hWS]; simp
  have X2 : Sp8 wS w.heap.size 0 ⟨f, p, z, an, aw, mn, mw, s⟩ A2 c2 M cm := by rw [← hWS]; constructor <;> simp [go_sem, x0, x1, x2, x3, x4, x5, x6, x7]
  have Y2 : Sp8 wS (w.heap.size + 1) 0 sd0 none 0 none 0 := by rw [← hWS]; exact (Y1.far (p := ⟨w.heap.size, 3, none⟩) (by simp) _).far (p := ⟨w.heap.size, 4, none⟩) (by simp) _
  have oA : Own wS (w.heap.size + 2) A2 aw := by rw [← hWS]; exact ((o2.mono (by first | omega | (simp; omega) | simp)).far (p := ⟨w.heap.size, 3, none⟩) (.inl (by show w.heap.size < _; omega)) _).far (p := ⟨w.heap.size, 4, none⟩) (.inl (by show w.heap.size < _; omega)) _
  have bS : Below w.heap.size w wS := by rw [← hWS]; exact (b2.setCell (p := ⟨w.heap.size, 3, none⟩) (by first | omega | (simp; omega) | simp) _).setCell (p := ⟨w.heap.size, 4, none⟩) (by first | omega | (simp; omega) | simp) _
  have rMS : Row wS wS.heap.size M mw := hM.later bS
  have t3 : ∀ i, wS.frozen? ⟨w.heap.size + 1, i, none⟩ = false := fun i => by rw [← hWS, World.frozen?_setCell, World.frozen?_setCell]; exact y0 i
  have t5 : wS.frozen? ⟨w.heap.size, 5, none⟩ = false := by rw [← hWS, World.frozen?_setCell, World.frozen?_setCell]; exact z5
  have t6 : wS.frozen? ⟨w.heap.size, 6, none⟩ = false := by rw [← hWS, World.frozen?_setCell, World.frozen?_setCell]; exact z6
  clear hWS X1 Y1 z3 z4 z5 z6 y0 o2 rM2 x0 x1 x2 x3 x4 x5 x6 x7 b2
  go_at_call 62
  refine (HM.out _ rMS).mono ?_
  rintro e w4 ⟨A4, c4, rfl, o4, hb_w4⟩
  have hs4 := hb_w4.size
  have b4 : Below w.heap.size w w4 := bS.trans (hb_w4.mono (by omega))
  have X3 := X2.below hb_w4 (by omega)
  have Y3 := Y2.below hb_w4 (by omega)
  have oA4 := oA.later hb_w4
  have u5 : w4.frozen? ⟨w.heap.size, 5, none⟩ = false := ((bcell hb_w4).2 _ _ (by omega)).trans t5
  have u6 : w4.frozen? ⟨w.heap.size, 6, none⟩ = false := ((bcell hb_w4).2 _ _ (by omega)).trans t6
  have u1 : ∀ i, w4.frozen? ⟨w.heap.size + 1, i, none⟩ = false := fun i => ((bcell hb_w4).2 _ _ (by omega)).trans (t3 i)
  have v0 := u1 0
  have v1 := u1 1
  have v2 := u1 2
  have v3 := u1 3
  have v4 := u1 4
  have v5 := u1 5
  have v6 := u1 6
  have v7 := u1 7
  obtain ⟨x0, x1, x2, x3, x4, x5, x6, x7⟩ := id X3
  simp only [Nat.zero_add] at x0 x1 x2 x3 x4 x5 x6 x7
  obtain ⟨m0, m1, m2, m3, m4, m5, m6, m7⟩ := id Y3
  simp only [Nat.zero_add, sd0, List.length_nil] at m0 m1 m2 m3 m4 m5 m6 m7
  clear X2 Y2 oA bS rMS t3 t5 t6 u1
  go_wp2
  have Y4 := (Y3.far (p := ⟨w.heap.size, 5, none⟩) (by simp) (.int .i64 mn)).far (p := ⟨w.heap.size, 6, none⟩) (by simp) (.slice A4 mw.length c4)
  have Y5 := Y4.set (d' := ⟨f, p, z, an, aw, mn, mw, s⟩) (A' := A2) (ca' := c2) (M' := A4) (cm' := c4)
  refine bodyPost_ret (res_span1 rfl rfl Y5) rfl ⟨A2, c2, A4, c4, rfl, ?_, ?_, ?_⟩
  · refine Own.mono (B := w.heap.size + 2) ?_ (by first | omega | (simp; omega) | simp)
    iterate 10 (refine Own.far ?_ (.inl (by simp)) _)
    exact oA4
  · refine Own.mono (B := w.heap.size + 2) ?_ (by first | omega | (simp; omega) | simp)
    iterate 10 (refine Own.far ?_ (.inl (by simp)) _)
    exact o4.mono (by omega)
  · iterate 10 (refine Below.setCell ?_ (by simp) _)
    exact b4
end
end Go.Proofs.Ythphefoohkofbaa

/- The document's Copy of spans. -/
namespace Go.Proofs.Ythphefoohkofbaa
open Go.RowKit
set_option linter.unusedVariables false
set_option linter.unusedSimpArgs false

/-- spans of a call's own, whatever they are -/
structure CopX (w : World) (B : Nat) (A : Option Addr) (n cap : Nat) (vs : List Sv) : Prop where
  len : vs.length = n
  row_ : w.ownsRow B 26 8 (.slice A n cap) n (flat8 vs)
  words : ∀ v ∈ vs, Own w B v.A v.d.aw ∧ Own w B v.M v.d.mw
  apart : ∀ v ∈ vs, ∀ g, A = some ⟨g, 0, none⟩ → (0 < v.d.aw.length → v.A ≠ some ⟨g, 0, none⟩) ∧ (0 < v.d.mw.length → v.M ≠ some ⟨g, 0, none⟩)
theorem CopX.srow {w : World} {B n cap : Nat} {A : Option Addr} {vs : List Sv} (h : CopX w B A n cap vs) : SRow w w.heap.size A (sdsOf vs) :=
  ⟨fun hl => by
    have hn : 0 < n := by rw [← h.len]; simpa [sdsOf] using hl
    obtain ⟨_, ⟨h1, h2⟩ | ⟨g, cap', cur, e, _⟩⟩ := id h.row_
    · omega
    · injection e with e1 _ e3
      subst e1
      have hr := h.row_
      refine ⟨g, 0, rfl, (hr.lt g rfl).2, fun i hi => ?_⟩
      have hi' : i < vs.length := by simpa [sdsOf] using hi
      have hw := h.words vs[i] (List.getElem_mem hi')
      rw [nth_sds vs i hi']
      exact ⟨vs[i].A, vs[i].ca, vs[i].M, vs[i].cm, sp8_of_owns hr h.len i (by rw [← h.len]; exact hi'), hw.1.row, hw.2.row⟩⟩
theorem CopX.later {w w' : World} {B n cap : Nat} {A : Option Addr} {vs : List Sv} (h : CopX w B A n cap vs) (hb : Below w.heap.size w w') : CopX w' B A n cap vs :=
  ⟨h.len, owns_laterN h.row_ hb, fun v hv => ⟨(h.words v hv).1.later hb, (h.words v hv).2.later hb⟩, h.apart⟩
theorem CopX.nil (w : World) (B : Nat) : CopX w B none 0 0 [] := ⟨rfl, World.ownsRow_nil _ _ _ _, fun v hv => (by cases hv), fun v hv => (by cases hv)⟩
theorem Own.grown {w w' : World} {B : Nat} {A : Option Addr} {ws : List Nat} {row : Option Nat} (h : Own w B A ws) (hg : w.grownBy w' row) (hne : 0 < ws.length → ∀ g, A = some ⟨g, 0, none⟩ → some g ≠ row) : Own w' B A ws :=
  ⟨h.words, fun hl => by
    obtain ⟨g, e, h1, h2, hc⟩ := h.at_ hl
    have hb := hg.block g h2 (hne hl g e)
    exact ⟨g, e, h1, Nat.lt_of_lt_of_le h2 hg.size, fun i hi => ⟨(World.cell?_of_block (a := ⟨g, i, none⟩) hb).trans (hc i hi).1, (World.frozen?_of_block (a := ⟨g, i, none⟩) hb).trans (hc i hi).2⟩⟩⟩
theorem CopX.snoc {w w' : World} {B n cap cap' g7 : Nat} {Ac : Option Addr} {vs : List Sv} {v : Sv} (h : CopX w B Ac n cap vs) (hv1 : Own w B v.A v.d.aw) (hv2 : Own w B v.M v.d.mw)
    (hvn : ∀ g, Ac = some ⟨g, 0, none⟩ → (0 < v.d.aw.length → v.A ≠ some ⟨g, 0, none⟩) ∧ (0 < v.d.mw.length → v.M ≠ some ⟨g, 0, none⟩))
    (hown : w'.ownsRow B 26 8 (.slice (some ⟨g7, 0, none⟩) (n + 1) cap') (n + 1) (flat8 vs ++ cells8 v)) (hg : w.grownBy w' (Value.slice Ac n cap).ownBlock) (hat : (Value.slice Ac n cap).ownBlock = some g7 ∨ w.heap.size ≤ g7) : CopX w' B (some ⟨g7, 0, none⟩) (n + 1) cap' (vs ++ [v]) := by
  have hall : ∀ u ∈ vs ++ [v], (Own w B u.A u.d.aw ∧ Own w B u.M u.d.mw) ∧ ∀ g, Ac = some ⟨g, 0, none⟩ → (0 < u.d.aw.length → u.A ≠ some ⟨g, 0, none⟩) ∧ (0 < u.d.mw.length → u.M ≠ some ⟨g, 0, none⟩) := fun u hu => by
    rw [List.mem_append, List.mem_singleton] at hu
    rcases hu with hu | rfl
    · exact ⟨h.words u hu, h.apart u hu⟩
    · exact ⟨⟨hv1, hv2⟩, hvn⟩
  have hform : ∀ g, (Value.slice Ac n cap).ownBlock = some g → Ac = some ⟨g, 0, none⟩ := fun g hgg => by
    obtain ⟨_, ⟨e, _⟩ | ⟨g', c', cur, e, _⟩⟩ := id h.row_
    · injection e with e
      subst e
      cases hgg
    · injection e with e
      subst e
      injection hgg with hgg
      have : g' = g := hgg
      rw [this]
  have key : ∀ (A : Option Addr) (ws : List Nat), Own w B A ws → (∀ g, Ac = some ⟨g, 0, none⟩ → 0 < ws.length → A ≠ some ⟨g, 0, none⟩) → Own w' B A ws ∧ (0 < ws.length → A ≠ some ⟨g7, 0, none⟩) := fun A ws ho hn => by
    refine ⟨ho.grown hg (fun hl g e e2 => hn g (hform g e2.symm) hl e), fun hl e => ?_⟩
    rcases hat with hat | hat
    · exact hn g7 (hform g7 hat) hl e
    · obtain ⟨q, e2, _, hq, _⟩ := ho.at_ hl
      rw [e] at e2
      injection e2 with e2
      injection e2 with e2
      omega
  refine ⟨by rw [List.length_append, h.len]; rfl, by rw [flat8_app]; simpa [flat8] using hown, fun u hu => ?_, fun u hu g e => ?_⟩
  · obtain ⟨⟨g1, g2⟩, g3⟩ := hall u hu
    exact ⟨(key _ _ g1 fun g e hl => (g3 g e).1 hl).1, (key _ _ g2 fun g e hl => (g3 g e).2 hl).1⟩
  · injection e with e
    injection e with e
    subst e
    obtain ⟨⟨g1, g2⟩, g3⟩ := hall u hu
    exact ⟨(key _ _ g1 fun g e hl => (g3 g e).1 hl).2, (key _ _ g2 fun g e hl => (g3 g e).2 hl).2⟩
/-- all words of spans are no more than there can be -/
def WordsLe (l : List Sd) : Prop := ∀ d ∈ l, d.aw.length ≤ 17592186044416 ∧ d.mw.length ≤ 17592186044416
theorem nth_mem (l : List Sd) (i : Nat) (h : i < l.length) : nth l i ∈ l := by
  unfold nth
  rw [List.getD_eq_getElem?_getD, List.getElem?_eq_getElem h]
  exact List.getElem_mem h
theorem take_nth (l : List Sd) (i : Nat) (h : i < l.length) : l.take (i + 1) = l.take i ++ [nth l i] := by
  unfold nth
  rw [List.getD_eq_getElem?_getD, List.getElem?_eq_getElem h, List.take_add_one, List.getElem?_eq_getElem h]
  rfl
section
variable {w : World} {A : Option Addr} {l : List Sd} (cap : Nat)
set_option maxHeartbeats 4000000 in
theorem xcopyL_any (hr : SRow w w.heap.size A l) (hl : l.length ≤ 1466015503658) (hw : WordsLe l) :
    Calls Try.prog 25 #[.slice A l.length cap] w fun e w' => ∃ A' c' vs, e = .returned (.slice A' l.length c') ∧ sdsOf vs = l ∧ CopX w' w.heap.size A' l.length c' vs ∧ Below w.heap.size w w' := by
  obtain ⟨i0, hi, hz0, hz1, hz2⟩ := info_parts info_sp
  have HW := Lib.hid hw
  clear hw
  go_enter Try.func25, Try.ntmps25
  go_wp2_with fail
  go_loopw [3, 8] (fun c ii wr => ∃ k : Nat, ii = .int .i64 (k : Nat) ∧ k ≤ l.length ∧ ∃ (Ac : Option Addr) (capc : Nat) (vs : List Sv), c = .slice Ac k capc ∧ Hid (sdsOf vs = l.take k) ∧ CopX wr w.heap.size Ac k capc vs ∧ w.heap.size ≤ wr.heap.size ∧ Below w.heap.size w wr) (fun _ ii _ => l.length - (intOf ii).toNat)
  case atStart => exact ⟨0, rfl, Nat.zero_le _, none, 0, [], rfl, Lib.hid rfl, CopX.nil _ _, (by first | omega | (simp; omega) | simp), (by repeat (first | exact Below.refl _ _ | assumption | (refine below_drewN ?_ _) | (refine Below.drew ?_) | (refine Below.alloc ?_ (by first | omega | (simp; omega) | simp) _) | (refine Below.setCell ?_ (by first | omega | (simp; omega) | simp) _) | (refine below_trans ?_ (by assumption) (by first | omega | (simp; omega) | simp))))⟩
  case round =>
    obtain ⟨k, rfl, hk, Ac, capc, vs, rfl, HS, oC, hsz, hb_wr⟩ := hrel
    have hsr := hb_wr.size
    by_cases hlt : k < l.length
    · obtain ⟨b, off, hAe, hbb, hc⟩ := (hr.later hb_wr).at_ (by omega)
      obtain ⟨Aa, ca, Am, cm, c8, ra, rm⟩ := hc k hlt
      obtain ⟨wa, wm⟩ := HW.out _ (nth_mem l k hlt)
      have hnx := take_nth l k hlt
      obtain ⟨d, hd⟩ : ∃ d, Hid (nth l k = d) := ⟨_, rfl⟩
      rw [hd.out] at c8 ra rm wa wm hnx
      have HNX := Lib.hid hnx
      obtain ⟨c0, c1, c2, c3, c4, c5, c6, c7⟩ := id c8
      have i1 : (k : Int) < (l.length : Int) := by omega
      have i2 : (0 : Int) ≤ (k : Int) := by omega
      have HO := Lib.hid fun (w : World) ha hm => xone_any (w := w) (A := Aa) (M := Am) ca cm d ha hm wa wm
      unfold OneS at HO
      subst hAe
      clear hc hnx c8 wa wm
      obtain ⟨f, p, z, an, aw, mn, mw, s⟩ := d
      unfold spv at HO
      simp only at *
      go_wp2_with fail
      go_at_call 33
      refine (HO.out _ (ra.later (by repeat (first | exact Below.refl _ _ | assumption | (refine below_drewN ?_ _) | (refine Below.drew ?_) | (refine Below.alloc ?_ (by first | omega | (simp; omega) | simp) _) | (refine Below.setCell ?_ (by first | omega | (simp; omega) | simp) _) | (refine below_trans ?_ (by assumption) (by first | omega | (simp; omega) | simp))))) (rm.later (by repeat (first | exact Below.refl _ _ | assumption | (refine below_drewN ?_ _) | (refine Below.drew ?_) | (refine Below.alloc ?_ (by first | omega | (simp; omega) | simp) _) | (refine Below.setCell ?_ (by first | omega | (simp; omega) | simp) _) | (refine below_trans ?_ (by assumption) (by first | omega | (simp; omega) | simp)))))).mono ?_
      rintro e w5 ⟨A5, C5, M5, D5, rfl, o5, o5', hb_w5⟩
      have hs5 := hb_w5.size
      (try simp only [World.size_alloc] at hs5)
      have b55 : Below wr.heap.size wr w5 := below_trans ((Below.refl wr.heap.size wr).alloc (Nat.le_refl _) _) hb_w5 (by simp)
      have b5 : Below w.heap.size w w5 := hb_wr.trans (b55.mono hsz)
      have oC5 := oC.later b55
      have oA : Own w5 w.heap.size A5 aw := o5.mono (by first | omega | (simp; omega) | simp)
      have oM : Own w5 w.heap.size M5 mw := o5'.mono (by first | omega | (simp; omega) | simp)
      have hvn : ∀ g, Ac = some ⟨g, 0, none⟩ → (0 < aw.length → A5 ≠ some ⟨g, 0, none⟩) ∧ (0 < mw.length → M5 ≠ some ⟨g, 0, none⟩) := fun g e => by
        have hg : g < wr.heap.size := (oC.row_.lt g (by rw [e]; rfl)).2
        have hwr : wr.heap.size ≤ (wr.alloc (.cells #[.int .i64 f, .int .i64 p, .int .i64 z, .int .i64 an, .slice Aa aw.length ca, .int .i64 mn, .slice Am mw.length cm, .bool s] 26)).heap.size := by simp
        refine ⟨fun hl e2 => ?_, fun hl e2 => ?_⟩
        · obtain ⟨q, e3, hq, _⟩ := o5.at_ hl
          rw [e2] at e3
          injection e3 with e3
          injection e3 with e3
          omega
        · obtain ⟨q, e3, hq, _⟩ := o5'.at_ hl
          rw [e2] at e3
          injection e3 with e3
          injection e3 with e3
          omega
      have HSN := Lib.hid fun (w6 w7 : World) (g7 cap7 : Nat) (hb : Below w5.heap.size w5 w6) h1 h2 h3 => CopX.snoc (w := w6) (w' := w7) (g7 := g7) (cap' := cap7) (v := ⟨⟨f, p, z, an, aw, mn, mw, s⟩, A5, C5, M5, D5⟩) (oC5.later hb) (oA.later hb) (oM.later hb) hvn h1 h2 h3
      have oR := oC5.row_
      clear o5 o5' oC oA oM hvn ra rm c0 c1 c2 c3 c4 c5 c6 c7 oC5
      go_wp2_with (at_builtin; refine wpList_append_lies _ ?_ (.tmp 12) (.tmp 15) 27 ?_ w.heap.size 26 i0 _ 8 96 Try.underlying27 hi hz0 hz1 hz2 rfl (by omega) (.slice Ac k capc) k (flat8 vs) ?_ (oR.alloc _) ⟨w5.heap.size, 0, none⟩ 1 1 (cells8 ⟨⟨f, p, z, an, aw, mn, mw, s⟩, A5, C5, M5, D5⟩) ?_ (by simp [cells8]) ?_ (by intro u hu; have := flat8_one [⟨⟨f, p, z, an, aw, mn, mw, s⟩, A5, C5, M5, D5⟩] u (by simpa [flat8] using hu); exact this) (by omega) (by unfold maxLen; omega) (by omega) (by first | omega | (simp; omega) | simp) _ rfl ?_; rfl; rfl; rfl; rfl; (intro j u hj; rw [add_form]; have hj8 : j < 8 := (by have := (List.getElem?_eq_some_iff.1 hj).1; simpa [cells8] using this); have hg := heap_alloc_new w5 (.cells #[.int .i64 f, .int .i64 p, .int .i64 z, .int .i64 an, .slice A5 aw.length C5, .int .i64 mn, .slice M5 mw.length D5, .bool s] 26); rw [cell_of_row _ _ _ _ _ _ hg, Nat.zero_add, ← hj]; simp [cells8]); intro g cap7 w7 hown7 hg7 hat7 hlt7; have hb_w7 : Below w.heap.size _ w7 := (Below.refl _ _).grown hg7 (by first | omega | (simp; omega) | simp) (fun b hb => oR.lt b hb |>.1); have hs7 := hb_w7.size; (try simp only [World.size_alloc] at hs7))
      go_roundw
      case rel =>
        exact ⟨k + 1, by go_num, by omega, some ⟨g, 0, none⟩, cap7, vs ++ [⟨⟨f, p, z, an, aw, mn, mw, s⟩, A5, C5, M5, D5⟩], rfl, Lib.hid (by rw [sds_app, HS.out, HNX.out]; rfl), HSN.out _ _ _ _ (by repeat (first | exact Below.refl _ _ | assumption | (refine below_drewN ?_ _) | (refine Below.drew ?_) | (refine Below.alloc ?_ (by first | omega | (simp; omega) | simp) _) | (refine Below.setCell ?_ (by first | omega | (simp; omega) | simp) _) | (refine below_trans ?_ (by assumption) (by first | omega | (simp; omega) | simp)))) hown7 hg7 (by rcases hat7 with h | h; exact .inl h; exact .inr (by rw [h]; exact Nat.le_refl _)), (by first | omega | (simp; omega) | simp), (by repeat (first | exact Below.refl _ _ | assumption | (refine below_drewN ?_ _) | (refine Below.drew ?_) | (refine Below.alloc ?_ (by first | omega | (simp; omega) | simp) _) | (refine Below.setCell ?_ (by first | omega | (simp; omega) | simp) _) | (refine below_trans ?_ (by assumption) (by first | omega | (simp; omega) | simp))))⟩
      case measure => simp [intOf]; omega
    · obtain rfl : k = l.length := by omega
      have hsd := HS.out
      rw [List.take_length] at hsd
      have HSD := Lib.hid hsd
      clear hsd
      go_wp2
      go_ret
      exact ⟨Ac, capc, vs, rfl, HSD.out, oC, hb_wr⟩
end
end Go.Proofs.Ythphefoohkofbaa

/- The document's SameOne and Same of spans, of what is one. -/
namespace Go.Proofs.Ythphefoohkofbaa
open Go.RowKit
set_option linter.unusedVariables false
set_option linter.unusedSimpArgs false

section
variable {w : World} {A M C N : Option Addr} (ca cm cc cn : Nat)
theorem xsameone_self (d : Sd) (hA : Row w w.heap.size A d.aw) (hM : Row w w.heap.size M d.mw) (hC : Row w w.heap.size C d.aw) (hN : Row w w.heap.size N d.mw) (la : d.aw.length ≤ 17592186044416) (lm : d.mw.length ≤ 17592186044416) :
    Calls Try.prog 18 #[spv d A ca M cm, spv d C cc N cn] w fun e w' => e = .returned (.bool true) ∧ Below w.heap.size w w' := by
  have HA := Lib.hid fun (w : World) h1 h2 => same_ok d.an d.aw (by unfold maxLen; omega) w A C ca cc h1 h2
  have HM := Lib.hid fun (w : World) h1 h2 => same_ok d.mn d.mw (by unfold maxLen; omega) w M N cm cn h1 h2
  obtain ⟨f, p, z, an, aw, mn, mw, s⟩ := d
  unfold spv
  simp only at *
  have n1 : (f == f) = true := by simp
  have n2 : (p == p) = true := by simp
  have n3 : (z == z) = true := by simp
  have n4 : (s == s) = true := by simp
  go_enter Try.func18, Try.ntmps18
  go_wp2_with fail
  go_at_call 44
  refine (HA.out _ (hA.later (by repeat (first | exact Below.refl _ _ | assumption | (refine below_drewN ?_ _) | (refine Below.drew ?_) | (refine Below.alloc ?_ (by first | omega | (simp; omega) | simp) _) | (refine Below.setCell ?_ (by first | omega | (simp; omega) | simp) _) | (refine below_trans ?_ (by assumption) (by first | omega | (simp; omega) | simp))))) (hC.later (by repeat (first | exact Below.refl _ _ | assumption | (refine below_drewN ?_ _) | (refine Below.drew ?_) | (refine Below.alloc ?_ (by first | omega | (simp; omega) | simp) _) | (refine Below.setCell ?_ (by first | omega | (simp; omega) | simp) _) | (refine below_trans ?_ (by assumption) (by first | omega | (simp; omega) | simp)))))).mono ?_
  rintro e w2 ⟨rfl, hb_w2⟩
  obtain ⟨hc_w2, hf_w2⟩ := bcell hb_w2
  have hs2 := hb_w2.size
  (try simp only [World.size_alloc] at hs2)
  have b2 : Below w.heap.size w w2 := (by repeat (first | exact Below.refl _ _ | assumption | (refine below_drewN ?_ _) | (refine Below.drew ?_) | (refine Below.alloc ?_ (by first | omega | (simp; omega) | simp) _) | (refine Below.setCell ?_ (by first | omega | (simp; omega) | simp) _) | (refine below_trans ?_ (by assumption) (by first | omega | (simp; omega) | simp))))
  have x0 : w2.cell? ⟨w.heap.size, 0, none⟩ = some (.int .i64 f) := (hc_w2 _ _ (by first | omega | (simp; omega) | simp)).trans (by simp [go_sem])
  have x1 : w2.cell? ⟨w.heap.size, 1, none⟩ = some (.int .i64 p) := (hc_w2 _ _ (by first | omega | (simp; omega) | simp)).trans (by simp [go_sem])
  have x2 : w2.cell? ⟨w.heap.size, 2, none⟩ = some (.int .i64 z) := (hc_w2 _ _ (by first | omega | (simp; omega) | simp)).trans (by simp [go_sem])
  have x3 : w2.cell? ⟨w.heap.size, 3, none⟩ = some (.int .i64 an) := (hc_w2 _ _ (by first | omega | (simp; omega) | simp)).trans (by simp [go_sem])
  have x4 : w2.cell? ⟨w.heap.size, 4, none⟩ = some (.slice A aw.length ca) := (hc_w2 _ _ (by first | omega | (simp; omega) | simp)).trans (by simp [go_sem])
  have x5 : w2.cell? ⟨w.heap.size, 5, none⟩ = some (.int .i64 mn) := (hc_w2 _ _ (by first | omega | (simp; omega) | simp)).trans (by simp [go_sem])
  have x6 : w2.cell? ⟨w.heap.size, 6, none⟩ = some (.slice M mw.length cm) := (hc_w2 _ _ (by first | omega | (simp; omega) | simp)).trans (by simp [go_sem])
  have x7 : w2.cell? ⟨w.heap.size, 7, none⟩ = some (.bool s) := (hc_w2 _ _ (by first | omega | (simp; omega) | simp)).trans (by simp [go_sem])
  have y0 : w2.cell? ⟨w.heap.size + 1, 0, none⟩ = some (.int .i64 f) := (hc_w2 _ _ (by first | omega | (simp; omega) | simp)).trans (by simp [go_sem])
  have y1 : w2.cell? ⟨w.heap.size + 1, 1, none⟩ = some (.int .i64 p) := (hc_w2 _ _ (by first | omega | (simp; omega) | simp)).trans (by simp [go_sem])
  have y2 : w2.cell? ⟨w.heap.size + 1, 2, none⟩ = some (.int .i64 z) := (hc_w2 _ _ (by first | omega | (simp; omega) | simp)).trans (by simp [go_sem])
  have y3 : w2.cell? ⟨w.heap.size + 1, 3, none⟩ = some (.int .i64 an) := (hc_w2 _ _ (by first | omega | (simp; omega) | simp)).trans (by simp [go_sem])
  have y4 : w2.cell? ⟨w.heap.size + 1, 4, none⟩ = some (.slice C aw.length cc) := (hc_w2 _ _ (by first | omega | (simp; omega) | simp)).trans (by simp [go_sem])
  have y5 : w2.cell? ⟨w.heap.size + 1, 5, none⟩ = some (.int .i64 mn) := (hc_w2 _ _ (by first | omega | (simp; omega) | simp)).trans (by simp [go_sem])
  have y6 : w2.cell? ⟨w.heap.size + 1, 6, none⟩ = some (.slice N mw.length cn) := (hc_w2 _ _ (by first | omega | (simp; omega) | simp)).trans (by simp [go_sem])
  have y7 : w2.cell? ⟨w.heap.size + 1, 7, none⟩ = some (.bool s) := (hc_w2 _ _ (by first | omega | (simp; omega) | simp)).trans (by simp [go_sem])
  clear hc_w2 hf_w2
  go_wp2_with fail
  go_at_call 44
  refine (HM.out _ (hM.later b2) (hN.later b2)).mono ?_
  rintro e w3 ⟨rfl, hb_w3⟩
  have hs3 := hb_w3.size
  have b3 : Below w.heap.size w w3 := b2.trans (hb_w3.mono (by omega))
  have X7 : w3.cell? ⟨w.heap.size, 7, none⟩ = some (.bool s) := (hb_w3.cell (p := ⟨w.heap.size, 7, none⟩) (by show w.heap.size < _; omega)).trans x7
  have Y7 : w3.cell? ⟨w.heap.size + 1, 7, none⟩ = some (.bool s) := (hb_w3.cell (p := ⟨w.heap.size + 1, 7, none⟩) (by show w.heap.size + 1 < _; omega)).trans y7
  go_wp2
  go_ret
  exact ⟨rfl, b3⟩
end
section
variable {w : World} {A C : Option Addr} {l : List Sd} (cap cc : Nat)
set_option maxHeartbeats 8000000 in
theorem xsameL_self (hr : SRow w w.heap.size A l) (hq : SRow w w.heap.size C l) (hl : l.length ≤ 17592186044416) (hw : WordsLe l) :
    Calls Try.prog 30 #[.slice A l.length cap, .slice C l.length cc] w fun e w' => e = .returned (.bool true) ∧ Below w.heap.size w w' := by
  have HW := Lib.hid hw
  clear hw
  go_enter Try.func30, Try.ntmps30
  go_wp2_with fail
  go_loopw [13] (fun ii wr => ∃ k : Nat, ii = .int .i64 (k : Nat) ∧ k ≤ l.length ∧ w.heap.size ≤ wr.heap.size ∧ Below w.heap.size w wr) (fun ii _ => l.length - (intOf ii).toNat)
  case atStart => exact ⟨0, rfl, Nat.zero_le _, (by first | omega | (simp; omega) | simp), (by repeat (first | exact Below.refl _ _ | assumption | (refine below_drewN ?_ _) | (refine Below.drew ?_) | (refine Below.alloc ?_ (by first | omega | (simp; omega) | simp) _) | (refine Below.setCell ?_ (by first | omega | (simp; omega) | simp) _) | (refine below_trans ?_ (by assumption) (by first | omega | (simp; omega) | simp))))⟩
  case round =>
    obtain ⟨k, rfl, hk, hsz, hb_wr⟩ := hrel
    have hsr := hb_wr.size
    by_cases hlt : k < l.length
    · obtain ⟨b, off, hAe, hbb, hc⟩ := (hr.later hb_wr).at_ (by omega)
      obtain ⟨b', off', hCe, hbb', hc'⟩ := (hq.later hb_wr).at_ (by omega)
      obtain ⟨A, ca, M, cm, c8, ra, rm⟩ := hc k hlt
      obtain ⟨C, cc', N, cn, c8', rc, rn⟩ := hc' k hlt
      obtain ⟨wa, wm⟩ := HW.out _ (nth_mem l k hlt)
      generalize nth l k = d at *
      have HO := Lib.hid fun (w : World) h1 h2 h3 h4 => xsameone_self (w := w) (A := A) (M := M) (C := C) (N := N) ca cm cc' cn d h1 h2 h3 h4 wa wm
      obtain ⟨x0, x1, x2, x3, x4, x5, x6, x7⟩ := c8
      obtain ⟨y0, y1, y2, y3, y4, y5, y6, y7⟩ := c8'
      subst hAe hCe
      clear hc hc' wa wm
      obtain ⟨f, p, z, an, aw, mn, mw, s⟩ := d
      unfold spv at HO
      simp only at *
      have i1 : (k : Int) < (l.length : Int) := by omega
      have i2 : (0 : Int) ≤ (k : Int) := by omega
      go_wp2_with fail
      go_region_held3 (fun X : World => X.cell? ⟨b, off + k * 8, none⟩ = some (.int .i64 f) ∧ X.cell? ⟨b, off + k * 8 + 1, none⟩ = some (.int .i64 p) ∧ X.cell? ⟨b, off + k * 8 + 2, none⟩ = some (.int .i64 z) ∧ X.cell? ⟨b, off + k * 8 + 3, none⟩ = some (.int .i64 an) ∧ X.cell? ⟨b, off + k * 8 + 4, none⟩ = some (.slice A aw.length ca) ∧ X.cell? ⟨b, off + k * 8 + 5, none⟩ = some (.int .i64 mn) ∧ X.cell? ⟨b, off + k * 8 + 6, none⟩ = some (.slice M mw.length cm) ∧ X.cell? ⟨b, off + k * 8 + 7, none⟩ = some (.bool s) ∧ X.cell? ⟨b', off' + k * 8, none⟩ = some (.int .i64 f) ∧ X.cell? ⟨b', off' + k * 8 + 1, none⟩ = some (.int .i64 p) ∧ X.cell? ⟨b', off' + k * 8 + 2, none⟩ = some (.int .i64 z) ∧ X.cell? ⟨b', off' + k * 8 + 3, none⟩ = some (.int .i64 an) ∧ X.cell? ⟨b', off' + k * 8 + 4, none⟩ = some (.slice C aw.length cc') ∧ X.cell? ⟨b', off' + k * 8 + 5, none⟩ = some (.int .i64 mn) ∧ X.cell? ⟨b', off' + k * 8 + 6, none⟩ = some (.slice N mw.length cn) ∧ X.cell? ⟨b', off' + k * 8 + 7, none⟩ = some (.bool s))
        (refine ⟨?_, ?_, ?_, ?_, ?_, ?_, ?_, ?_, ?_, ?_, ?_, ?_, ?_, ?_, ?_, ?_⟩ <;> first | assumption | exact (World.cell?_alloc_lt _ _ ⟨_, _, _⟩ (by first | omega | (simp; omega) | simp)).trans (by assumption) | (simp [go_sem]; done))
        ((go_at_call 18; refine (HO.out _ (ra.later (by repeat (first | exact Below.refl _ _ | assumption | (refine below_drewN ?_ _) | (refine Below.drew ?_) | (refine Below.alloc ?_ (by first | omega | (simp; omega) | simp) _) | (refine Below.setCell ?_ (by first | omega | (simp; omega) | simp) _) | (refine below_trans ?_ (by assumption) (by first | omega | (simp; omega) | simp))))) (rm.later (by repeat (first | exact Below.refl _ _ | assumption | (refine below_drewN ?_ _) | (refine Below.drew ?_) | (refine Below.alloc ?_ (by first | omega | (simp; omega) | simp) _) | (refine Below.setCell ?_ (by first | omega | (simp; omega) | simp) _) | (refine below_trans ?_ (by assumption) (by first | omega | (simp; omega) | simp))))) (rc.later (by repeat (first | exact Below.refl _ _ | assumption | (refine below_drewN ?_ _) | (refine Below.drew ?_) | (refine Below.alloc ?_ (by first | omega | (simp; omega) | simp) _) | (refine Below.setCell ?_ (by first | omega | (simp; omega) | simp) _) | (refine below_trans ?_ (by assumption) (by first | omega | (simp; omega) | simp))))) (rn.later (by repeat (first | exact Below.refl _ _ | assumption | (refine below_drewN ?_ _) | (refine Below.drew ?_) | (refine Below.alloc ?_ (by first | omega | (simp; omega) | simp) _) | (refine Below.setCell ?_ (by first | omega | (simp; omega) | simp) _) | (refine below_trans ?_ (by assumption) (by first | omega | (simp; omega) | simp)))))).mono ?_; rintro e w5 ⟨rfl, hb_w5⟩; have hs5 := hb_w5.size; (try simp only [World.size_drew, World.heap_drewN, World.size_alloc] at hs5); have m0 : w5.cell? ⟨b, off + k * 8, none⟩ = some (.int .i64 f) := (hb_w5.cell (p := ⟨b, off + k * 8, none⟩) (by first | omega | (simp; omega) | simp)).trans (by first | assumption | (simp [go_sem]; done)); have m1 : w5.cell? ⟨b, off + k * 8 + 1, none⟩ = some (.int .i64 p) := (hb_w5.cell (p := ⟨b, off + k * 8 + 1, none⟩) (by first | omega | (simp; omega) | simp)).trans (by first | assumption | (simp [go_sem]; done)); have m2 : w5.cell? ⟨b, off + k * 8 + 2, none⟩ = some (.int .i64 z) := (hb_w5.cell (p := ⟨b, off + k * 8 + 2, none⟩) (by first | omega | (simp; omega) | simp)).trans (by first | assumption | (simp [go_sem]; done)); have m3 : w5.cell? ⟨b, off + k * 8 + 3, none⟩ = some (.int .i64 an) := (hb_w5.cell (p := ⟨b, off + k * 8 + 3, none⟩) (by first | omega | (simp; omega) | simp)).trans (by first | assumption | (simp [go_sem]; done)); have m4 : w5.cell? ⟨b, off + k * 8 + 4, none⟩ = some (.slice A aw.length ca) := (hb_w5.cell (p := ⟨b, off + k * 8 + 4, none⟩) (by first | omega | (simp; omega) | simp)).trans (by first | assumption | (simp [go_sem]; done)); have m5 : w5.cell? ⟨b, off + k * 8 + 5, none⟩ = some (.int .i64 mn) := (hb_w5.cell (p := ⟨b, off + k * 8 + 5, none⟩) (by first | omega | (simp; omega) | simp)).trans (by first | assumption | (simp [go_sem]; done)); have m6 : w5.cell? ⟨b, off + k * 8 + 6, none⟩ = some (.slice M mw.length cm) := (hb_w5.cell (p := ⟨b, off + k * 8 + 6, none⟩) (by first | omega | (simp; omega) | simp)).trans (by first | assumption | (simp [go_sem]; done)); have m7 : w5.cell? ⟨b, off + k * 8 + 7, none⟩ = some (.bool s) := (hb_w5.cell (p := ⟨b, off + k * 8 + 7, none⟩) (by first | omega | (simp; omega) | simp)).trans (by first | assumption | (simp [go_sem]; done)); have m8 : w5.cell? ⟨b', off' + k * 8, none⟩ = some (.int .i64 f) := (hb_w5.cell (p := ⟨b', off' + k * 8, none⟩) (by first | omega | (simp; omega) | simp)).trans (by first | assumption | (simp [go_sem]; done)); have m9 : w5.cell? ⟨b', off' + k * 8 + 1, none⟩ = some (.int .i64 p) := (hb_w5.cell (p := ⟨b', off' + k * 8 + 1, none⟩) (by first | omega | (simp; omega) | simp)).trans (by first | assumption | (simp [go_sem]; done)); have m10 : w5.cell? ⟨b', off' + k * 8 + 2, none⟩ = some (.int .i64 z) := (hb_w5.cell (p := ⟨b', off' + k * 8 + 2, none⟩) (by first | omega | (simp; omega) | simp)).trans (by first | assumption | (simp [go_sem]; done)); have m11 : w5.cell? ⟨b', off' + k * 8 + 3, none⟩ = some (.int .i64 an) := (hb_w5.cell (p := ⟨b', off' + k * 8 + 3, none⟩) (by first | omega | (simp; omega) | simp)).trans (by first | assumption | (simp [go_sem]; done)); have m12 : w5.cell? ⟨b', off' + k * 8 + 4, none⟩ = some (.slice C aw.length cc') := (hb_w5.cell (p := ⟨b', off' + k * 8 + 4, none⟩) (by first | omega | (simp; omega) | simp)).trans (by first | assumption | (simp [go_sem]; done)); have m13 : w5.cell? ⟨b', off' + k * 8 + 5, none⟩ = some (.int .i64 mn) := (hb_w5.cell (p := ⟨b', off' + k * 8 + 5, none⟩) (by first | omega | (simp; omega) | simp)).trans (by first | assumption | (simp [go_sem]; done)); have m14 : w5.cell? ⟨b', off' + k * 8 + 6, none⟩ = some (.slice N mw.length cn) := (hb_w5.cell (p := ⟨b', off' + k * 8 + 6, none⟩) (by first | omega | (simp; omega) | simp)).trans (by first | assumption | (simp [go_sem]; done)); have m15 : w5.cell? ⟨b', off' + k * 8 + 7, none⟩ = some (.bool s) := (hb_w5.cell (p := ⟨b', off' + k * 8 + 7, none⟩) (by first | omega | (simp; omega) | simp)).trans (by first | assumption | (simp [go_sem]; done))))
      all_goals
        go_wp2
        go_roundw
        case rel => exact ⟨k + 1, by go_num, by omega, (by first | omega | (simp; omega) | simp), (by repeat (first | exact Below.refl _ _ | assumption | (refine below_drewN ?_ _) | (refine Below.drew ?_) | (refine Below.alloc ?_ (by first | omega | (simp; omega) | simp) _) | (refine Below.setCell ?_ (by first | omega | (simp; omega) | simp) _) | (refine below_trans ?_ (by assumption) (by first | omega | (simp; omega) | simp))))⟩
        case measure => simp [intOf]; omega
    · go_wp2
      go_ret
      exact ⟨rfl, hb_wr⟩
end
end Go.Proofs.Ythphefoohkofbaa
