/- What was read so far: labels in a map, commands in a row; contracts of package asm: place. -/
import Derived.Test.YtggaijdbaplfiaaGreatDoorAs19
import Derived.Maps.Views
import Derived.Maps.OwnSet
namespace Go.Proofs.YtggaijdbaplfiaaGreatDoor
open Go.RowKit
set_option linter.unusedVariables false
set_option linter.unusedSimpArgs false
def intD (n : Int) : DataW Unit := .lit (.int .i64 n)
def intElem : Value → Option (DataW Unit × List MemPlace)
  | .int .i64 n => some (intD n, [])
  | _ => none
theorem intElem_inv {v : Value} {n : Int} {ps : List MemPlace} (h : intElem v = some (intD n, ps)) : v = .int .i64 n := by
  unfold intElem at h
  split at h
  · injection h with h
    injection h with h
    unfold intD at h
    injection h with h
    injection h with _ h
    rw [h]
  · cases h
/-- the map of some labels -/
def labD (lb : Lbs) : DataW Unit := lb.foldl (fun D e => D.put (.string e.1) (intD (e.2 : Nat))) (.map [])
theorem labD_snoc (lb : Lbs) (e : List UInt8 × Nat) : labD (lb ++ [e]) = (labD lb).put (.string e.1) (intD (e.2 : Nat)) := by
  unfold labD
  rw [List.foldl_append]
  rfl
theorem snocR {α : Type} {p : List α → Prop} (h0 : p []) (h1 : ∀ a x, p a → p (a ++ [x])) : ∀ l, p l := by
  intro l
  have h : ∀ r : List α, p r.reverse := by
    intro r
    induction r with
    | nil => exact h0
    | cons x r ih => rw [List.reverse_cons]; exact h1 _ _ ih
  have := h l.reverse
  rwa [List.reverse_reverse] at this
theorem labD_isMap (lb : Lbs) : Maps.IsMap (labD lb) := by
  refine snocR (p := fun lb => Maps.IsMap (labD lb)) ⟨[], rfl⟩ (fun a x ih => ?_) lb
  rw [labD_snoc]
  exact ih.put _ _
/-- labels of which no two are one -/
def LbOk (lb : Lbs) : Prop := (lb.map (·.1)).Nodup
theorem lookup_app (lb : Lbs) (e : List UInt8 × Nat) (s : List UInt8) : (lb ++ [e]).lookup s = (lb.lookup s).or (if s = e.1 then some e.2 else none) := by
  induction lb with
  | nil =>
    obtain ⟨a, b⟩ := e
    simp only [List.nil_append, List.lookup]
    by_cases h : s = a
    · simp [h]
    · have hb : (s == a) = false := by simpa using h
      rw [hb, if_neg h]
      rfl
  | cons x lb ih =>
    obtain ⟨a, b⟩ := x
    simp only [List.cons_append, List.lookup]
    by_cases h : s == a
    · simp [h]
    · simp only [h]
      exact ih
theorem lookup_in {lb : Lbs} {s : List UInt8} (h : s ∈ lb.map (·.1)) : (lb.lookup s).isSome = true := by
  induction lb with
  | nil => simp at h
  | cons x lb ih =>
    obtain ⟨a, b⟩ := x
    simp only [List.lookup]
    by_cases e : s == a
    · simp [e]
    · simp only [e]
      rw [List.map_cons, List.mem_cons] at h
      rcases h with h | h
      · simp only at h
        simp [h] at e
      · exact ih h
theorem LbOk.snoc {lb : Lbs} {s : List UInt8} {n : Nat} (h : LbOk lb) (hn : lb.lookup s = none) : LbOk (lb ++ [(s, n)]) := by
  unfold LbOk
  rw [List.map_append, List.nodup_append]
  refine ⟨h, by simp, fun a ha b hb => ?_⟩
  simp at hb
  subst hb
  rintro rfl
  have := lookup_in ha
  rw [hn] at this
  cases this
theorem labD_at (lb : Lbs) (s : List UInt8) (z : DataW Unit) : LbOk lb → Maps.has (labD lb) (.string s) = (lb.lookup s).isSome ∧ (labD lb).atKey (.string s) z = (match lb.lookup s with | some n => intD (n : Nat) | none => z) := by
  refine snocR (p := fun lb => LbOk lb → Maps.has (labD lb) (.string s) = (lb.lookup s).isSome ∧ (labD lb).atKey (.string s) z = (match lb.lookup s with | some n => intD (n : Nat) | none => z)) (fun _ => ⟨rfl, rfl⟩) (fun a x ih => ?_) lb
  · intro hok
    obtain ⟨nm, p⟩ := x
    have ha : LbOk a := by
      unfold LbOk at hok ⊢
      rw [List.map_append, List.nodup_append] at hok
      exact hok.1
    have hna : nm ∉ a.map (·.1) := by
      unfold LbOk at hok
      rw [List.map_append, List.nodup_append] at hok
      exact fun hm => hok.2.2 nm hm nm (by simp) rfl
    rw [labD_snoc, lookup_app]
    by_cases h : s = nm
    · subst h
      have hl : a.lookup s = none := by
        cases hq : a.lookup s with
        | none => rfl
        | some v =>
          exfalso
          apply hna
          clear ih hok ha hna
          induction a with
          | nil => simp at hq
          | cons y a ih =>
            obtain ⟨b, c⟩ := y
            simp only [List.lookup] at hq
            by_cases e : s == b
            · simp only [beq_iff_eq] at e
              simp [e]
            · simp only [e] at hq
              simp [ih hq]
      rw [hl]
      simp only [if_true, Option.none_or]
      exact ⟨Maps.has_put_same (labD_isMap a) (k := .string s) trivial _, Maps.atKey_put_same (labD_isMap a) (k := .string s) trivial _ _⟩
    · have h2 : (Lit.string s) ≠ .string nm := fun e => by injection e with e; exact h e
      rw [Maps.has_put_other h2, Maps.atKey_put_other h2, if_neg h, Option.or_none]
      exact ih ha
theorem skey : Maps.Keyed Tryz.prog 9 := Maps.string_keyed Tryz.underlying9
theorem skeyOf {s : ByteArray} (hs : s.size ≤ maxLen) : keyOf Tryz.prog 9 (.string s) = some (.string s.data.toList) := by
  simp [keyOf, Tryz.underlying9, mapKey, hs]
def LabM (w : World) (M : Nat) (lb : Lbs) : Prop := w.ownsMap Tryz.prog 9 intElem M lb.length (labD lb)
theorem LabM.later {w w' : World} {M : Nat} {lb : Lbs} (h : LabM w M lb) (hb : Below w.heap.size w w') : LabM w' M lb :=
  World.ownsMap.kept (row := none) h ⟨hb.os, hb.tape, hb.output, hb.size, fun k hk _ => hb.block k hk⟩ (by simp)
theorem LabM.lt {w : World} {M : Nat} {lb : Lbs} (h : LabM w M lb) : M < w.heap.size := World.ownsMap.lt h
theorem lab_ty : Tryz.prog.underlying 48 = some (.map 9 3) := Tryz.underlying48
theorem zeroI (w : World) : (zeroValue 3).run Tryz.prog w = .ok (.int .i64 0) w := by kernel_rfl
theorem LabM.look {w : World} {M : Nat} {lb : Lbs} (h : LabM w M lb) (hok : LbOk lb) {s : ByteArray} (hs : s.size ≤ maxLen) :
    (Instr.lookup 48 (.map (some M)) (.string s) true).run Tryz.prog w = .ok (.tuple #[.int .i64 (((lb.lookup s.data.toList).getD 0 : Nat)), .bool (lb.lookup s.data.toList).isSome]) w := by
  obtain ⟨v, ps, h1, h2⟩ := World.ownsMap.look_ok h skey lab_ty (zeroI w) (show intElem (.int .i64 0) = some (intD 0, []) from rfl) (skeyOf hs)
  obtain ⟨h3, h4⟩ := labD_at lb s.data.toList (intD 0) hok
  rw [h3] at h1
  rw [h4] at h2
  have hv : v = .int .i64 ((lb.lookup s.data.toList).getD 0 : Nat) := by
    cases hf : lb.lookup s.data.toList with
    | none => rw [hf] at h2; exact intElem_inv h2
    | some e => rw [hf] at h2; exact intElem_inv h2
  rw [h1, hv]
theorem lab_up {W : World} {M : Nat} {lb : Lbs} (nm : ByteArray) (n : Nat) (h : LabM W M lb) (hl : lb.length ≤ 100000) (hn : nm.size ≤ 65536) :
    ∃ w', (Instr.mapUpdate 48 (.map (some M)) (.string nm) (.int .i64 (n : Nat))).run Tryz.prog W = .ok () w' ∧ LabM w' M (lb ++ [(nm.data.toList, n)]) ∧ W.grownBy w' (some M) := by
  have hk := skeyOf (s := nm) (by unfold maxLen; omega)
  obtain ⟨w', h1, h2, h3⟩ := World.ownsMap.update h skey lab_ty (by unfold maxLen; omega) hk (show intElem (.int .i64 (n : Nat)) = some (intD (n : Nat), []) from rfl)
  refine ⟨w', h1, ?_, h3⟩
  unfold LabM
  rw [labD_snoc, List.length_append, List.length_singleton]
  exact h2
def cmc (c : In × List UInt8 × Nat) : List Value := [.int .u8 c.1.kd, .int .u8 c.1.op, .int .i64 c.1.oa, .int .i64 c.1.ob, .int .i64 c.1.fd, .int .i64 c.1.n, .int .u64 c.1.m, .int .u64 c.1.w, .int .i64 c.1.a, .int .i64 c.1.b, .int .i64 c.1.to, .string (bs c.2.1), .int .i64 (c.2.2 : Nat)]
def flatC (cs : Cms) : List Value := cs.flatMap cmc
theorem flatC_snoc (cs : Cms) (c : In × List UInt8 × Nat) : flatC cs ++ cmc c = flatC (cs ++ [c]) := by simp [flatC]
/-- what was read so far lies in block g, its labels in M, its commands from B on -/
structure RD (w : World) (B g M : Nat) (lb : Lbs) (cs : Cms) : Prop where
  gB : g < B
  MB : M < B
  gM : g ≠ M
  Bw : B ≤ w.heap.size
  map : LabM w M lb
  fz : ∀ o, w.frozen? ⟨g, o, none⟩ = false
  c0 : w.cell? ⟨g, 0, none⟩ = some (.map (some M))
  row : ∃ A cap, w.cell? ⟨g, 1, none⟩ = some (.slice A cs.length cap) ∧ w.ownsRow B 74 13 (.slice A cs.length cap) cs.length (flatC cs)
theorem RD.later {w w' : World} {B g M : Nat} {lb : Lbs} {cs : Cms} (h : RD w B g M lb cs) (hb : Below w.heap.size w w') : RD w' B g M lb cs := by
  obtain ⟨h1, h2, h3, h4, h5, h6, h7, A, cap, h8, h9⟩ := h
  have hg : g < w.heap.size := by omega
  exact ⟨h1, h2, h3, Nat.le_trans h4 hb.size, h5.later hb, fz_later h6 hb hg, ((bcell hb).1 _ _ hg).trans h7, A, cap, ((bcell hb).1 _ _ hg).trans h8, owns_laterC h9 hb⟩
/-- what stays where more is read: all below b, all below B but g and M -/
def Kp (b B g M : Nat) (w w' : World) : Prop := Below b w w' ∧ ∀ k, k < B → k ≠ g → k ≠ M → w'.heap[k]? = w.heap[k]?
theorem Kp.trans {b B g M : Nat} {w1 w2 w3 : World} (h : Kp b B g M w1 w2) (k : Kp b B g M w2 w3) : Kp b B g M w1 w3 := ⟨h.1.trans k.1, fun j hj h1 h2 => (k.2 j hj h1 h2).trans (h.2 j hj h1 h2)⟩
theorem Kp.of {b B g M : Nat} {w w' : World} (h : Below w.heap.size w w') (hb : b ≤ w.heap.size) (hB : B ≤ w.heap.size) : Kp b B g M w w' := ⟨h.mono hb, fun k hk _ _ => h.block k (by omega)⟩
section
variable {w : World}
set_option maxRecDepth 100000 in
set_option maxHeartbeats 8000000 in
theorem aplace_any (b B g M : Nat) (lb : Lbs) (cs : Cms) (h : RD w B g M lb cs) (hok : LbOk lb) (hl : lb.length ≤ 100000) (hc : cs.length ≤ 256) (hbg : b ≤ g) (hbM : b ≤ M) (nm : ByteArray) (hn : nm.size ≤ 65536) :
    Calls Tryz.prog 39 #[.pointer (some ⟨g, 0, none⟩), .string nm] w fun e w' => (if (lb.lookup nm.data.toList).isSome then e = .returned (.int .i64 4) else (e = .returned (.int .i64 0) ∧ RD w' B g M (lb ++ [(nm.data.toList, cs.length)]) cs)) ∧ Kp b B g M w w' := by
  have hgB := h.gB
  have hMB := h.MB
  have hgM := h.gM
  have hBw := h.Bw
  have hgw : g < w.heap.size := by omega
  have hlk := h.map.look hok (s := nm) (by unfold maxLen; omega)
  obtain ⟨A, cap, c1, hrow⟩ := h.row
  have c0 := h.c0
  have OM := Lib.hid h.map
  have HFZ := Lib.hid h.fz
  have HROW := Lib.hid hrow
  clear hrow
  cases hq : lb.lookup nm.data.toList with
  | some n =>
    rw [hq] at hlk
    simp only [Option.getD_some, Option.isSome_some] at hlk
    clear h
    go_enter Tryz.func39, Tryz.ntmps39
    go_wp2
    go_ret
    exact ⟨rfl, Below.refl _ _, fun _ _ _ _ => rfl⟩
  | none =>
    rw [hq] at hlk
    simp only [Option.getD_none, Option.isSome_none] at hlk
    have HUP := Lib.hid fun (W : World) (h : LabM W M lb) => lab_up (W := W) nm cs.length h hl hn
    have hMlt := h.map.lt
    clear h
    go_enter Tryz.func39, Tryz.ntmps39
    go_wp2_with fail
    refine wp_region_held_drew (S := (fun X : World => X.cell? ⟨g, 0, none⟩ = some (.map (some M)) ∧ X.cell? ⟨g, 1, none⟩ = some (.slice A cs.length cap))) (by kernel_rfl) ?_ (fun hHeld => ?_)
    · (try dsimp only); refine ⟨?_, ?_⟩ <;> first | assumption | (simp [go_sem]; done) | exact (World.cell?_alloc_lt _ _ ⟨_, _, _⟩ (by first | omega | (simp; omega) | simp)).trans (by assumption)
    refine wpAnyH_take (i := 0) (v := ?_) rfl (by kernel_rfl) (by kernel_rfl) (by kernel_rfl) (fun _ _ _ h => h) (Or.inl ⟨by rfl, ?_⟩) (by assumption) ?_
    rotate_left
    · (intro w hSw; (try dsimp only at hSw); go_simp; first | done | with_reducible rfl)
    try simp only [Act.put, List.getElem_toArray, List.getElem_cons_zero, List.getElem_cons_succ, List.setIfInBounds_toArray, List.set_cons_zero, List.set_cons_succ]
    refine wpAnyH_take (i := 1) (v := ?_) rfl (by kernel_rfl) (by kernel_rfl) (by kernel_rfl) (fun _ _ _ h => h) (Or.inl ⟨by rfl, ?_⟩) (by assumption) ?_
    rotate_left
    · (intro w hSw; (try dsimp only at hSw); go_simp; first | done | with_reducible rfl)
    try simp only [Act.put, List.getElem_toArray, List.getElem_cons_zero, List.getElem_cons_succ, List.setIfInBounds_toArray, List.set_cons_zero, List.set_cons_succ]
    refine wpAnyH_take (i := 2) (v := ?_) rfl (by kernel_rfl) (by kernel_rfl) (by kernel_rfl) (fun _ _ _ h => h) (Or.inl ⟨by rfl, ?_⟩) (by assumption) ?_
    rotate_left
    · (intro w hSw; (try dsimp only at hSw); go_simp; first | done | with_reducible rfl)
    try simp only [Act.put, List.getElem_toArray, List.getElem_cons_zero, List.getElem_cons_succ, List.setIfInBounds_toArray, List.set_cons_zero, List.set_cons_succ]
    refine wpAnyH_take (i := 3) (v := ?_) rfl (by kernel_rfl) (by kernel_rfl) (by kernel_rfl) (fun _ _ _ h => h) (Or.inl ⟨by rfl, ?_⟩) (by assumption) ?_
    rotate_left
    · (intro w hSw; (try dsimp only at hSw); go_simp; first | done | with_reducible rfl)
    try simp only [Act.put, List.getElem_toArray, List.getElem_cons_zero, List.getElem_cons_succ, List.setIfInBounds_toArray, List.set_cons_zero, List.set_cons_succ]
    refine wpAnyH_take (i := 4) (v := ?_) rfl (by kernel_rfl) (by kernel_rfl) (by kernel_rfl) (fun _ _ _ h => h) (Or.inl ⟨by rfl, ?_⟩) (by assumption) ?_
    rotate_left
    · (intro w hSw; (try dsimp only at hSw); go_simp; first | done | with_reducible rfl)
    try simp only [Act.put, List.getElem_toArray, List.getElem_cons_zero, List.getElem_cons_succ, List.setIfInBounds_toArray, List.set_cons_zero, List.set_cons_succ]
    refine wpAnyH_take (i := 5) (v := ?_) rfl (by kernel_rfl) (by kernel_rfl) (by kernel_rfl) (fun _ _ _ h => h) (Or.inl ⟨by rfl, ?_⟩) (by assumption) ?_
    rotate_left
    · (intro w hSw; (try dsimp only at hSw); go_simp; first | done | with_reducible rfl)
    try simp only [Act.put, List.getElem_toArray, List.getElem_cons_zero, List.getElem_cons_succ, List.setIfInBounds_toArray, List.set_cons_zero, List.set_cons_succ]
    refine wpAnyH_take (i := 6) (v := ?_) rfl (by kernel_rfl) (by kernel_rfl) (by kernel_rfl) (fun _ _ _ h => h) (Or.inl ⟨by rfl, ?_⟩) (by assumption) ?_
    rotate_left
    · (intro w hSw; (try dsimp only at hSw); go_simp; first | done | with_reducible rfl)
    try simp only [Act.put, List.getElem_toArray, List.getElem_cons_zero, List.getElem_cons_succ, List.setIfInBounds_toArray, List.set_cons_zero, List.set_cons_succ]
    refine wpAnyH_take (i := 7) (v := ?_) rfl (by kernel_rfl) (by kernel_rfl) (by kernel_rfl) (fun _ _ _ h => h) (Or.inl ⟨by rfl, ?_⟩) (by assumption) ?_
    rotate_left
    · (intro w hSw; (try dsimp only at hSw); go_simp; first | done | with_reducible rfl)
    try simp only [Act.put, List.getElem_toArray, List.getElem_cons_zero, List.getElem_cons_succ, List.setIfInBounds_toArray, List.set_cons_zero, List.set_cons_succ]
    refine wpAnyH_take (i := 8) (v := ?_) rfl (by kernel_rfl) (by kernel_rfl) (by kernel_rfl) (fun _ _ _ h => h) (Or.inl ⟨by rfl, ?_⟩) (by assumption) ?_
    rotate_left
    · (intro w hSw; (try dsimp only at hSw); go_simp; first | done | with_reducible rfl)
    try simp only [Act.put, List.getElem_toArray, List.getElem_cons_zero, List.getElem_cons_succ, List.setIfInBounds_toArray, List.set_cons_zero, List.set_cons_succ]
    refine wpAnyH_take (i := 9) (v := ?_) rfl (by kernel_rfl) (by kernel_rfl) (by kernel_rfl) (fun _ _ _ h => h) (Or.inl ⟨by rfl, ?_⟩) (by assumption) ?_
    rotate_left
    · (intro w hSw; (try dsimp only at hSw); go_simp; first | done | with_reducible rfl)
    try simp only [Act.put, List.getElem_toArray, List.getElem_cons_zero, List.getElem_cons_succ, List.setIfInBounds_toArray, List.set_cons_zero, List.set_cons_succ]
    obtain ⟨w4, hrun, hM4, hgr4⟩ := HUP.out w.drew (OM.out.later (Below.drew (Below.refl _ _)))
    have HM4 := Lib.hid hM4
    have HG4 := Lib.hid hgr4
    have g40 : w4.cell? ⟨g, 0, none⟩ = some (.map (some M)) := (World.cell?_of_block (hgr4.block _ hgw (by intro e9; simp only [Option.some.injEq] at e9; omega))).trans c0
    have g41 : w4.cell? ⟨g, 1, none⟩ = some (.slice A cs.length cap) := (World.cell?_of_block (hgr4.block _ hgw (by intro e9; simp only [Option.some.injEq] at e9; omega))).trans c1
    clear hM4 hgr4
    refine wpAnyH_ready (rs := [10]) (by kernel_rfl) (by simp) ?_
    refine AllReadyH.cons rfl (fun K hK => ?_) AllReadyH.nil
    try simp only [List.getElem_toArray, List.getElem_cons_zero, List.getElem_cons_succ]
    go_simp
    refine hK.out _ _ ?_ (fun hHeld => ?_)
    · (try dsimp only); refine ⟨?_, ?_⟩ <;> first | assumption | (simp [go_sem]; done) | exact (World.cell?_alloc_lt _ _ ⟨_, _, _⟩ (by first | omega | (simp; omega) | simp)).trans (by assumption)
    clear hK K
    try simp only [Act.put, List.getElem_toArray, List.getElem_cons_zero, List.getElem_cons_succ, List.setIfInBounds_toArray, List.set_cons_zero, List.set_cons_succ]
    refine wpAnyH_done (by kernel_rfl) ?_ _
    have HB4 : Hid (Kp b B g M w w4) := Lib.hid ⟨((show Below b w _ from (by repeat (first | exact Below.refl _ _ | assumption | (refine below_drewN ?_ _) | (refine Below.drew ?_) | (refine Below.alloc ?_ (by first | omega | (simp; omega) | simp) _) | (refine Below.setCell ?_ (by first | omega | (simp; omega) | simp) _) | (refine below_trans ?_ (by assumption) (by first | omega | (simp; omega) | simp))))).grown HG4.out (by (try simp only [World.size_drew, World.heap_drewN]); omega) (fun k9 hk9 => by simp only [Option.some.injEq] at hk9; omega)), fun k hk _ hkM => HG4.out.block k (by show k < w.heap.size; omega) (by intro e9; simp only [Option.some.injEq] at e9; omega)⟩
    go_wp2
    go_ret
    refine ⟨?_, HB4.out⟩
    refine ⟨rfl, hgB, hMB, hgM, Nat.le_trans hBw HB4.out.1.size, HM4.out, fun o => (World.frozen?_of_block (HG4.out.block _ hgw (by intro e9; simp only [Option.some.injEq] at e9; omega))).trans (HFZ.out o), by assumption, A, cap, by assumption, ?_⟩
    refine World.ownsRow.kept (show w.drew.ownsRow B 74 13 (.slice A cs.length cap) cs.length (flatC cs) from HROW.out) HG4.out ?_
    cases hv : (Value.slice A cs.length cap).ownBlock with
    | none => exact .inl rfl
    | some k9 =>
      right
      intro e9
      have := HROW.out.lt k9 hv
      simp only [Option.some.injEq] at e9
      omega
end
end Go.Proofs.YtggaijdbaplfiaaGreatDoor
