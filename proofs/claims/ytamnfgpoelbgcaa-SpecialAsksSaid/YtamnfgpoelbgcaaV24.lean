/- The document's Of and Take of specials. -/
import Derived.Test.YtamnfgpoelbgcaaV16
namespace Go.Proofs.Ytamnfgpoelbgcaa
open Go.RowKit
set_option linter.unusedVariables false
set_option linter.unusedSimpArgs false

theorem owns_keptC {w w' : World} {B n cap : Nat} {A : Option Addr} {xs : List Value} {row : Option Nat} (h : w.ownsRow B 41 3 (.slice A n cap) n xs) (hg : w.grownBy w' row) (hne : ∀ g, (A.map fun a => a.block) = some g → row ≠ some g) : w'.ownsRow B 41 3 (.slice A n cap) n xs := by
  refine World.ownsRow.kept h hg ?_
  cases A with
  | none => exact .inl rfl
  | some a => exact .inr (fun e => hne a.block rfl e.symm)
section
variable {w : World} {A : Option Addr} {l : List Sc} (cap : Nat)
set_option maxHeartbeats 2000000 in
theorem xofL_any (hr : CRow w w.heap.size A l) (hcl : l.length ≤ cap) (hl : l.length ≤ 5864062014805) (x : Int) (r : List Sc) (y : Int) (hE : OfE l (ofP x) r y) :
    Calls Try.prog 13 #[.slice A l.length cap, .int .u64 x] w fun e w' => ∃ B cb, e = .returned (.tuple #[.slice B r.length cb, .int .i64 y]) ∧ OwnsC w' w.heap.size (.slice B r.length cb) r ∧ Below w.heap.size w w' := by
  rcases hE with ⟨hok, rfl, rfl⟩ | ⟨hok, rfl, rfl⟩
  · have HC := Lib.hid fun (w : World) hr => xccheck_any (w := w) (A := A) (l := l) cap hr hcl hl 0 (.inl ⟨hok, rfl⟩)
    have hl64 := hok.1
    clear hok
    obtain ⟨i0, hi, hz0, hz1, hz2⟩ := info_parts info_sc
    go_enter Try.func13, Try.ntmps13
    go_wp2_with fail
    go_at_call 21
    refine (HC.out _ (hr.later (by repeat (first | exact Below.refl _ _ | assumption | (refine below_drewN ?_ _) | (refine Below.drew ?_) | (refine Below.alloc ?_ (by first | omega | (simp; omega) | simp) _) | (refine Below.setCell ?_ (by first | omega | (simp; omega) | simp) _) | (refine below_trans ?_ (by assumption) (by first | omega | (simp; omega) | simp)))))).mono ?_
    rintro e w1 ⟨rfl, hb_w1⟩
    obtain ⟨hc_w1, hf_w1⟩ := bcell hb_w1; have hs_w1 := hb_w1.size; (try simp only [World.size_alloc, World.size_setCell, World.size_drew, World.heap_drewN] at hs_w1)
    have b1 : Below w.heap.size w w1 := (by repeat (first | exact Below.refl _ _ | assumption | (refine below_drewN ?_ _) | (refine Below.drew ?_) | (refine Below.alloc ?_ (by first | omega | (simp; omega) | simp) _) | (refine Below.setCell ?_ (by first | omega | (simp; omega) | simp) _) | (refine below_trans ?_ (by assumption) (by first | omega | (simp; omega) | simp))))
    go_wp2_with fail
    go_loopw [6, 14] (fun c ii wr => ∃ k : Nat, ii = .int .i64 (k : Nat) ∧ k ≤ l.length ∧ ∃ (ys : List Sc) (n : Nat) (Ac : Option Addr) (capc : Nat), Hid (ys = (l.take k).filter (ofP x)) ∧ Hid (ys.length = n) ∧ n ≤ k ∧ c = .slice Ac n capc ∧ wr.ownsRow w.heap.size 41 3 (.slice Ac n capc) n (flat ys) ∧ w.heap.size ≤ wr.heap.size ∧ Below w.heap.size w wr) (fun _ ii _ => l.length - (intOf ii).toNat)
    case atStart => exact ⟨0, rfl, Nat.zero_le _, [], 0, none, 0, Lib.hid (by simp), Lib.hid rfl, (by first | omega | (simp; omega) | simp), rfl, World.ownsRow_nil _ _ _ _, (by first | omega | (simp; omega) | simp), b1⟩
    case round =>
      obtain ⟨k, rfl, hk, ys, n, Ac, capc, hys, hyn, hnk, rfl, oC, hsz, hb_wr⟩ := hrel
      by_cases hlt : k < l.length
      · obtain ⟨b, off, rfl, hbb, hc⟩ := (hr.later hb_wr).at_ (by omega)
        have c3 := hc k hlt
        have hF := filter_next l (ofP x) k hlt
        obtain ⟨d, hd⟩ : ∃ d, Hid (nthC l k = d) := ⟨_, rfl⟩
        rw [hd.out] at c3 hF
        obtain ⟨c0, c1, c2⟩ := id c3
        clear hc
        have HS3 := Lib.hid (fun (W : World) (t : TypeId) => Sp3.new W d t)
        have HV := Lib.hid (flat_snoc ys d)
        obtain ⟨a, kk, t⟩ := d
        simp only at c0 c1 c2
        by_cases hq : a = x
        · have f1 : (a == x) = true := by simpa using hq
          have HF : Hid (ys ++ [(⟨a, kk, t⟩ : Sc)] = (l.take (k + 1)).filter (ofP x)) := Lib.hid (by rw [hF, hys.out, show ofP x (⟨a, kk, t⟩ : Sc) = true from f1]; rfl)
          have HL : Hid ((ys ++ [(⟨a, kk, t⟩ : Sc)]).length = n + 1) := Lib.hid (by rw [List.length_append, hyn.out]; rfl)
          clear hF hq
          go_wp2_with (at_builtin; refine wpList_append_lies _ ?_ (.tmp 22) (.tmp 24) 22 ?_ w.heap.size 41 i0 _ 3 24 Try.underlying22 hi hz0 hz1 hz2 rfl (by omega) (.slice Ac n capc) n (flat ys) ?_ ((oC.alloc _).alloc _) ⟨wr.heap.size + 1, 0, none⟩ 1 1 [.int .u64 a, .int .u8 kk, .int .u64 t] ?_ (by simp) ?_ (by simp [Value.oneCell']) (by omega) (by unfold maxLen; omega) (by omega) (by first | omega | (simp; omega) | simp) _ rfl ?_; rfl; rfl; rfl; rfl; (exact fun j u hj => (by have h9 := news_3 (HS3.out (wr.alloc (.cells #[.int .u64 a, .int .u8 kk, .int .u64 t] 41)) 41) j u hj; rwa [World.size_alloc] at h9)); intro g cap7 w7 hown7 hg7 hat7 hlt7; have hb_w7 : Below w.heap.size _ w7 := (Below.refl _ _).grown hg7 (by first | omega | (simp; omega) | simp) (fun b hb => oC.lt b hb |>.1); have hs7 := hb_w7.size; (try simp only [World.size_alloc] at hs7))
          go_roundw
          case rel =>
            refine ⟨k + 1, by go_num, by omega, ys ++ [(⟨a, kk, t⟩ : Sc)], n + 1, some ⟨g, 0, none⟩, cap7, HF, HL, by omega, rfl, ?_, (by first | omega | (simp; omega) | simp), (by repeat (first | exact Below.refl _ _ | assumption | (refine below_drewN ?_ _) | (refine Below.drew ?_) | (refine Below.alloc ?_ (by first | omega | (simp; omega) | simp) _) | (refine Below.setCell ?_ (by first | omega | (simp; omega) | simp) _) | (refine below_trans ?_ (by assumption) (by first | omega | (simp; omega) | simp))))⟩
            rw [HV.out]; exact hown7
          case measure => simp [intOf]; omega
        · have f1 : (a == x) = false := by simpa using hq
          have HF : Hid (ys = (l.take (k + 1)).filter (ofP x)) := Lib.hid (by rw [hF, hys.out, show ofP x (⟨a, kk, t⟩ : Sc) = false from f1]; simp)
          clear hF hq
          go_wp2
          go_roundw
          case rel => exact ⟨k + 1, by go_num, by omega, ys, n, Ac, capc, HF, hyn, by omega, rfl, oC.alloc _, (by first | omega | (simp; omega) | simp), (by repeat (first | exact Below.refl _ _ | assumption | (refine below_drewN ?_ _) | (refine Below.drew ?_) | (refine Below.alloc ?_ (by first | omega | (simp; omega) | simp) _) | (refine Below.setCell ?_ (by first | omega | (simp; omega) | simp) _) | (refine below_trans ?_ (by assumption) (by first | omega | (simp; omega) | simp))))⟩
          case measure => simp [intOf]; omega
      · obtain rfl : k = l.length := by omega
        have e : ys = l.filter (ofP x) := by rw [hys.out, List.take_length]
        have hyn' := hyn.out
        subst hyn'
        rw [e] at oC
        have HE : Hid (ys.length = (l.filter (ofP x)).length) := Lib.hid (by rw [e])
        clear e
        go_wp2
        go_ret2
        exact ⟨Ac, capc, by rw [← HE.out]; rfl, oC, (by repeat (first | exact Below.refl _ _ | assumption | (refine below_drewN ?_ _) | (refine Below.drew ?_) | (refine Below.alloc ?_ (by first | omega | (simp; omega) | simp) _) | (refine Below.setCell ?_ (by first | omega | (simp; omega) | simp) _) | (refine below_trans ?_ (by assumption) (by first | omega | (simp; omega) | simp))))⟩
  · have HC := Lib.hid fun (w : World) hr => xccheck_any (w := w) (A := A) (l := l) cap hr hcl hl 2 (.inr ⟨hok, rfl⟩)
    clear hok
    go_enter Try.func13, Try.ntmps13
    go_wp2_with fail
    go_at_call 21
    refine (HC.out _ (hr.later (by repeat (first | exact Below.refl _ _ | assumption | (refine below_drewN ?_ _) | (refine Below.drew ?_) | (refine Below.alloc ?_ (by first | omega | (simp; omega) | simp) _) | (refine Below.setCell ?_ (by first | omega | (simp; omega) | simp) _) | (refine below_trans ?_ (by assumption) (by first | omega | (simp; omega) | simp)))))).mono ?_
    rintro e w1 ⟨rfl, hb_w1⟩
    obtain ⟨hc_w1, hf_w1⟩ := bcell hb_w1; have hs_w1 := hb_w1.size; (try simp only [World.size_alloc, World.size_setCell, World.size_drew, World.heap_drewN] at hs_w1)
    go_wp2
    go_ret2
    exact ⟨none, 0, rfl, World.ownsRow_nil _ _ _ _, (by repeat (first | exact Below.refl _ _ | assumption | (refine below_drewN ?_ _) | (refine Below.drew ?_) | (refine Below.alloc ?_ (by first | omega | (simp; omega) | simp) _) | (refine Below.setCell ?_ (by first | omega | (simp; omega) | simp) _) | (refine below_trans ?_ (by assumption) (by first | omega | (simp; omega) | simp))))⟩
set_option maxHeartbeats 4000000 in
theorem xtakeL_any (hr : CRow w w.heap.size A l) (hcl : l.length ≤ cap) (hl : l.length ≤ 5864062014805) (x kd : Int) (r t : List Sc) (y : Int) (hE : TakeE l x kd r t y) :
    Calls Try.prog 15 #[.slice A l.length cap, .int .u64 x, .int .u8 kd] w fun e w' => ∃ B cb B2 cb2, e = .returned (.tuple #[.slice B r.length cb, .slice B2 t.length cb2, .int .i64 y]) ∧ OwnsC w' w.heap.size (.slice B r.length cb) r ∧ OwnsC w' w.heap.size (.slice B2 t.length cb2) t ∧ Below w.heap.size w w' := by
  rcases hE with ⟨hok, rfl, rfl, rfl⟩ | ⟨hok, rfl, rfl, rfl⟩
  · have HC := Lib.hid fun (w : World) hr => xccheck_any (w := w) (A := A) (l := l) cap hr hcl hl 0 (.inl ⟨hok, rfl⟩)
    have hl64 := hok.1
    clear hok
    obtain ⟨i0, hi, hz0, hz1, hz2⟩ := info_parts info_sc
    go_enter Try.func15, Try.ntmps15
    go_wp2_with fail
    go_at_call 21
    refine (HC.out _ (hr.later (by repeat (first | exact Below.refl _ _ | assumption | (refine below_drewN ?_ _) | (refine Below.drew ?_) | (refine Below.alloc ?_ (by first | omega | (simp; omega) | simp) _) | (refine Below.setCell ?_ (by first | omega | (simp; omega) | simp) _) | (refine below_trans ?_ (by assumption) (by first | omega | (simp; omega) | simp)))))).mono ?_
    rintro e w1 ⟨rfl, hb_w1⟩
    obtain ⟨hc_w1, hf_w1⟩ := bcell hb_w1; have hs_w1 := hb_w1.size; (try simp only [World.size_alloc, World.size_setCell, World.size_drew, World.heap_drewN] at hs_w1)
    have b1 : Below w.heap.size w w1 := (by repeat (first | exact Below.refl _ _ | assumption | (refine below_drewN ?_ _) | (refine Below.drew ?_) | (refine Below.alloc ?_ (by first | omega | (simp; omega) | simp) _) | (refine Below.setCell ?_ (by first | omega | (simp; omega) | simp) _) | (refine below_trans ?_ (by assumption) (by first | omega | (simp; omega) | simp))))
    go_wp2_with fail
    go_loopw [9, 10, 18] (fun c c' ii wr => ∃ k : Nat, ii = .int .i64 (k : Nat) ∧ k ≤ l.length ∧ ∃ (ys zs : List Sc) (n m : Nat) (Ac Bc : Option Addr) (capc capd : Nat), Hid (ys = (l.take k).filter (leftP x kd)) ∧ Hid (ys.length = n) ∧ n ≤ k ∧ Hid (zs = (l.take k).filter (takeP x kd)) ∧ Hid (zs.length = m) ∧ m ≤ k ∧ c = .slice Ac n capc ∧ c' = .slice Bc m capd ∧ wr.ownsRow w.heap.size 41 3 (.slice Ac n capc) n (flat ys) ∧ wr.ownsRow w.heap.size 41 3 (.slice Bc m capd) m (flat zs) ∧ (∀ g, (Ac.map fun a => a.block) = some g → (Bc.map fun a => a.block) ≠ some g) ∧ w.heap.size ≤ wr.heap.size ∧ Below w.heap.size w wr) (fun _ _ ii _ => l.length - (intOf ii).toNat)
    case atStart => exact ⟨0, rfl, Nat.zero_le _, [], [], 0, 0, none, none, 0, 0, Lib.hid (by simp), Lib.hid rfl, (by first | omega | (simp; omega) | simp), Lib.hid (by simp), Lib.hid rfl, (by first | omega | (simp; omega) | simp), rfl, rfl, World.ownsRow_nil _ _ _ _, World.ownsRow_nil _ _ _ _, (fun g hg => (by cases hg)), (by first | omega | (simp; omega) | simp), b1⟩
    case round =>
      obtain ⟨k, rfl, hk, ys, zs, n, m, Ac, Bc, capc, capd, hys, hyn, hnk, hzs, hzn, hmk, rfl, rfl, oC, oD, hsep, hsz, hb_wr⟩ := hrel
      have HSEP := Lib.hid hsep
      clear hsep
      by_cases hlt : k < l.length
      · obtain ⟨b, off, rfl, hbb, hc⟩ := (hr.later hb_wr).at_ (by omega)
        have c3 := hc k hlt
        have hF := filter_next l (leftP x kd) k hlt
        have hG := filter_next l (takeP x kd) k hlt
        obtain ⟨d, hd⟩ : ∃ d, Hid (nthC l k = d) := ⟨_, rfl⟩
        rw [hd.out] at c3 hF hG
        obtain ⟨c0, c1, c2⟩ := id c3
        clear hc
        have HS3 := Lib.hid (fun (W : World) (t : TypeId) => Sp3.new W d t)
        have HV := Lib.hid (flat_snoc ys d)
        have HW := Lib.hid (flat_snoc zs d)
        obtain ⟨a, kk, t⟩ := d
        simp only at c0 c1 c2
        have hAlt : ∀ g, (Ac.map fun a => a.block) = some g → g < wr.heap.size := fun g hg => (oC.lt g (by cases Ac with | none => cases hg | some a => exact hg)).2
        have hBlt : ∀ g, (Bc.map fun a => a.block) = some g → g < wr.heap.size := fun g hg => (oD.lt g (by cases Bc with | none => cases hg | some a => exact hg)).2
        have hobA : (Value.slice Ac n capc).ownBlock = (Ac.map fun a => a.block) := by cases Ac <;> rfl
        have hobB : (Value.slice Bc m capd).ownBlock = (Bc.map fun a => a.block) := by cases Bc <;> rfl
        have HAlt := Lib.hid hAlt
        have HBlt := Lib.hid hBlt
        have HobA := Lib.hid hobA
        have HobB := Lib.hid hobB
        clear hAlt hBlt hobA hobB
        by_cases hq : a = x ∧ kk = kd
        · have f1 : (a == x) = true := by simpa using hq.1
          have f2 : (kk == kd) = true := by simpa using hq.2
          have ft : takeP x kd (⟨a, kk, t⟩ : Sc) = true := by unfold takeP; simp [hq.1, hq.2]
          have fl : leftP x kd (⟨a, kk, t⟩ : Sc) = false := by unfold leftP; simp [hq.1, hq.2]
          have HF : Hid (ys = (l.take (k + 1)).filter (leftP x kd)) := Lib.hid (by rw [hF, hys.out, fl]; simp)
          have HG : Hid (zs ++ [(⟨a, kk, t⟩ : Sc)] = (l.take (k + 1)).filter (takeP x kd)) := Lib.hid (by rw [hG, hzs.out, ft]; rfl)
          have HL : Hid ((zs ++ [(⟨a, kk, t⟩ : Sc)]).length = m + 1) := Lib.hid (by rw [List.length_append, hzn.out]; rfl)
          clear hF hG hq ft fl
          go_wp2_with (at_builtin; refine wpList_append_lies _ ?_ (.tmp 32) (.tmp 34) 22 ?_ w.heap.size 41 i0 _ 3 24 Try.underlying22 hi hz0 hz1 hz2 rfl (by omega) (.slice Bc m capd) m (flat zs) ?_ ((oD.alloc _).alloc _) ⟨wr.heap.size + 1, 0, none⟩ 1 1 [.int .u64 a, .int .u8 kk, .int .u64 t] ?_ (by simp) ?_ (by simp [Value.oneCell']) (by omega) (by unfold maxLen; omega) (by omega) (by first | omega | (simp; omega) | simp) _ rfl ?_; rfl; rfl; rfl; rfl; (exact fun j u hj => (by have h9 := news_3 (HS3.out (wr.alloc (.cells #[.int .u64 a, .int .u8 kk, .int .u64 t] 41)) 41) j u hj; rwa [World.size_alloc] at h9)); intro g cap7 w7 hown7 hg7 hat7 hlt7; have hb_w7 : Below w.heap.size _ w7 := (Below.refl _ _).grown hg7 (by first | omega | (simp; omega) | simp) (fun b hb => oD.lt b hb |>.1); have hs7 := hb_w7.size; (try simp only [World.size_alloc] at hs7))
          have oC7 : w7.ownsRow w.heap.size 41 3 (.slice Ac n capc) n (flat ys) := owns_keptC ((oC.alloc _).alloc _) hg7 (fun g' hg' => by rw [HobB.out]; exact HSEP.out g' hg')
          have hsep7 : ∀ g', (Ac.map fun a => a.block) = some g' → ((some (⟨g, 0, none⟩ : Addr)).map fun a => a.block) ≠ some g' := fun g' hg' e => by
            have e : g = g' := by simpa using e
            subst e
            rcases hat7 with h9 | h9
            · rw [HobB.out] at h9; exact HSEP.out g hg' h9
            · have := HAlt.out g hg'
              simp only [World.size_alloc] at h9
              omega
          go_roundw
          case rel =>
            refine ⟨k + 1, by go_num, by omega, ys, zs ++ [(⟨a, kk, t⟩ : Sc)], n, m + 1, Ac, some ⟨g, 0, none⟩, capc, cap7, HF, hyn, by omega, HG, HL, by omega, rfl, rfl, oC7, ?_, hsep7, (by first | omega | (simp; omega) | simp), (by repeat (first | exact Below.refl _ _ | assumption | (refine below_drewN ?_ _) | (refine Below.drew ?_) | (refine Below.alloc ?_ (by first | omega | (simp; omega) | simp) _) | (refine Below.setCell ?_ (by first | omega | (simp; omega) | simp) _) | (refine below_trans ?_ (by assumption) (by first | omega | (simp; omega) | simp))))⟩
            rw [HW.out]; exact hown7
          case measure => simp [intOf]; omega
        · have ft : takeP x kd (⟨a, kk, t⟩ : Sc) = false := by
            unfold takeP
            rw [Bool.and_eq_false_iff]
            by_cases h1 : a = x
            · exact .inr (by simpa using fun h2 => hq ⟨h1, h2⟩)
            · exact .inl (by simpa using h1)
          have fl : leftP x kd (⟨a, kk, t⟩ : Sc) = true := by show (!takeP x kd (⟨a, kk, t⟩ : Sc)) = true; rw [ft]; rfl
          have HF : Hid (ys ++ [(⟨a, kk, t⟩ : Sc)] = (l.take (k + 1)).filter (leftP x kd)) := Lib.hid (by rw [hF, hys.out, fl]; rfl)
          have HG : Hid (zs = (l.take (k + 1)).filter (takeP x kd)) := Lib.hid (by rw [hG, hzs.out, ft]; simp)
          have HL : Hid ((ys ++ [(⟨a, kk, t⟩ : Sc)]).length = n + 1) := Lib.hid (by rw [List.length_append, hyn.out]; rfl)
          have hcase : (a == x) = false ∨ ((a == x) = true ∧ (kk == kd) = false) := by
            by_cases h1 : a = x
            · exact .inr ⟨by simpa using h1, by simpa using fun h2 => hq ⟨h1, h2⟩⟩
            · exact .inl (by simpa using h1)
          clear hF hG hq ft fl
          rcases hcase with f1 | ⟨f1, f2⟩
          all_goals
            go_wp2_with (at_builtin; refine wpList_append_lies _ ?_ (.tmp 36) (.tmp 38) 22 ?_ w.heap.size 41 i0 _ 3 24 Try.underlying22 hi hz0 hz1 hz2 rfl (by omega) (.slice Ac n capc) n (flat ys) ?_ ((oC.alloc _).alloc _) ⟨wr.heap.size + 1, 0, none⟩ 1 1 [.int .u64 a, .int .u8 kk, .int .u64 t] ?_ (by simp) ?_ (by simp [Value.oneCell']) (by omega) (by unfold maxLen; omega) (by omega) (by first | omega | (simp; omega) | simp) _ rfl ?_; rfl; rfl; rfl; rfl; (exact fun j u hj => (by have h9 := news_3 (HS3.out (wr.alloc (.cells #[.int .u64 a, .int .u8 kk, .int .u64 t] 41)) 41) j u hj; rwa [World.size_alloc] at h9)); intro g cap7 w7 hown7 hg7 hat7 hlt7; have hb_w7 : Below w.heap.size _ w7 := (Below.refl _ _).grown hg7 (by first | omega | (simp; omega) | simp) (fun b hb => oC.lt b hb |>.1); have hs7 := hb_w7.size; (try simp only [World.size_alloc] at hs7))
            have oD7 : w7.ownsRow w.heap.size 41 3 (.slice Bc m capd) m (flat zs) := owns_keptC ((oD.alloc _).alloc _) hg7 (fun g' hg' => by rw [HobA.out]; exact fun e => HSEP.out g' e hg')
            have hsep7 : ∀ g', ((some (⟨g, 0, none⟩ : Addr)).map fun a => a.block) = some g' → (Bc.map fun a => a.block) ≠ some g' := fun g' hg' e => by
              have e9 : g = g' := by simpa using hg'
              subst e9
              rcases hat7 with h9 | h9
              · rw [HobA.out] at h9; exact HSEP.out g h9 e
              · have := HBlt.out g e
                simp only [World.size_alloc] at h9
                omega
            go_roundw
            case rel =>
              refine ⟨k + 1, by go_num, by omega, ys ++ [(⟨a, kk, t⟩ : Sc)], zs, n + 1, m, some ⟨g, 0, none⟩, Bc, cap7, capd, HF, HL, by omega, HG, hzn, by omega, rfl, rfl, ?_, oD7, hsep7, (by first | omega | (simp; omega) | simp), (by repeat (first | exact Below.refl _ _ | assumption | (refine below_drewN ?_ _) | (refine Below.drew ?_) | (refine Below.alloc ?_ (by first | omega | (simp; omega) | simp) _) | (refine Below.setCell ?_ (by first | omega | (simp; omega) | simp) _) | (refine below_trans ?_ (by assumption) (by first | omega | (simp; omega) | simp))))⟩
              rw [HV.out]; exact hown7
            case measure => simp [intOf]; omega
      · obtain rfl : k = l.length := by omega
        have e : ys = l.filter (leftP x kd) := by rw [hys.out, List.take_length]
        have e' : zs = l.filter (takeP x kd) := by rw [hzs.out, List.take_length]
        have hyn' := hyn.out
        subst hyn'
        have hzn' := hzn.out
        subst hzn'
        rw [e] at oC
        rw [e'] at oD
        have HE : Hid (ys.length = (l.filter (leftP x kd)).length) := Lib.hid (by rw [e])
        have HE' : Hid (zs.length = (l.filter (takeP x kd)).length) := Lib.hid (by rw [e'])
        clear e e'
        go_wp2
        go_ret3
        exact ⟨Ac, capc, Bc, capd, by rw [← HE.out, ← HE'.out]; rfl, oC, oD, (by repeat (first | exact Below.refl _ _ | assumption | (refine below_drewN ?_ _) | (refine Below.drew ?_) | (refine Below.alloc ?_ (by first | omega | (simp; omega) | simp) _) | (refine Below.setCell ?_ (by first | omega | (simp; omega) | simp) _) | (refine below_trans ?_ (by assumption) (by first | omega | (simp; omega) | simp))))⟩
  · have HC := Lib.hid fun (w : World) hr => xccheck_any (w := w) (A := A) (l := l) cap hr hcl hl 2 (.inr ⟨hok, rfl⟩)
    clear hok
    go_enter Try.func15, Try.ntmps15
    go_wp2_with fail
    go_at_call 21
    refine (HC.out _ (hr.later (by repeat (first | exact Below.refl _ _ | assumption | (refine below_drewN ?_ _) | (refine Below.drew ?_) | (refine Below.alloc ?_ (by first | omega | (simp; omega) | simp) _) | (refine Below.setCell ?_ (by first | omega | (simp; omega) | simp) _) | (refine below_trans ?_ (by assumption) (by first | omega | (simp; omega) | simp)))))).mono ?_
    rintro e w1 ⟨rfl, hb_w1⟩
    obtain ⟨hc_w1, hf_w1⟩ := bcell hb_w1; have hs_w1 := hb_w1.size; (try simp only [World.size_alloc, World.size_setCell, World.size_drew, World.heap_drewN] at hs_w1)
    go_wp2
    go_ret3
    exact ⟨none, 0, none, 0, rfl, World.ownsRow_nil _ _ _ _, World.ownsRow_nil _ _ _ _, (by repeat (first | exact Below.refl _ _ | assumption | (refine below_drewN ?_ _) | (refine Below.drew ?_) | (refine Below.alloc ?_ (by first | omega | (simp; omega) | simp) _) | (refine Below.setCell ?_ (by first | omega | (simp; omega) | simp) _) | (refine below_trans ?_ (by assumption) (by first | omega | (simp; omega) | simp))))⟩
end
end Go.Proofs.Ytamnfgpoelbgcaa
