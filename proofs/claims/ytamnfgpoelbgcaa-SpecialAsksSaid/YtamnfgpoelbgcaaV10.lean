/- Contracts: slices.Insert of one special into specials of the caller's own. -/
import Derived.Test.YtamnfgpoelbgcaaV9
namespace Go.Proofs.Ytamnfgpoelbgcaa
open Go.RowKit
set_option linter.unusedVariables false
set_option linter.unusedSimpArgs false

/-- what Insert leaves -/
def InsC (w : World) (B : Nat) (A : Option Addr) (l : List Sc) (i : Nat) (s : Sc) (e : Ending) (w' : World) : Prop :=
  ∃ (A' : Option Addr) (cap' : Nat), e = .returned (.slice A' (l.length + 1) cap') ∧ w'.ownsRow B 41 3 (.slice A' (l.length + 1) cap') (l.length + 1) (flat (l.take i ++ s :: l.drop i)) ∧ w.grownBy w' (A.map fun a => a.block)
theorem owns_cell {w : World} {B cap g n : Nat} {xs : List Value} {cur : Array Value} (hg : w.heap[g]? = some (.cells cur 41 (0, 0))) (ht : cur.toList.take (n * 3) = xs) (j : Nat) (v : Value) (hv : xs[j]? = some v) : w.cell? ⟨g, j, none⟩ = some v := by
  have hj : j < xs.length := (List.getElem?_eq_some_iff.1 hv).1
  have hl : xs.length ≤ n * 3 := by rw [← ht, List.length_take]; omega
  rw [cell_of_row w g j cur _ _ hg, ← hv, ← ht, List.getElem?_take_of_lt (by omega), Array.getElem?_toList]
section
variable {w : World} {A : Option Addr} {l : List Sc} (cap : Nat)
set_option maxHeartbeats 2000000 in
theorem cinsert_end {B xb : Nat} (s : Sc) (ho : OwnsC w B (.slice A l.length cap) l) (hB : B ≤ w.heap.size) (h64 : l.length ≤ 1000000) (hx : Sp3 w xb 0 s) :
    Calls Try.prog 24 #[.slice A l.length cap, .int .i64 (l.length : Nat), .slice (some ⟨xb, 0, none⟩) 1 1] w fun e w' => InsC w B A l l.length s e w' := by
  obtain ⟨i0, hi, hz0, hz1, hz2⟩ := info_parts info_sc
  unfold InsC
  unfold OwnsC at ho
  have HV : Hid (flat (l.take l.length ++ s :: l.drop l.length) = flat l ++ scc s) := Lib.hid (by rw [flat_ins, List.take_length, List.drop_length]; simp [flat])
  have hnews := fun j u hj => news_3 (s := s) hx j u hj
  have hone := scc_one s
  have hsl : (scc s).length = 1 * 3 := rfl
  have hcap : l.length ≤ cap ∧ (cap : Int) ≤ 9223372036854775807 := by
    obtain ⟨_, ⟨h1, h2⟩ | ⟨g, cap', cur, e, _, _, hc, hm, _, _⟩⟩ := id ho
    · injection h1 with _ h3 h4; omega
    · injection e with _ _ e3
      unfold maxLen at hm
      omega
  obtain ⟨hc1, hc2⟩ := hcap
  generalize hn : l.length = n at *
  have hN := Lib.hid hn
  clear hn
  generalize scc s = xs at *
  have hA : A = none → cap = 0 := fun e => by
    obtain ⟨_, ⟨h1, h2⟩ | ⟨g, cap', cur, e2, _⟩⟩ := id ho
    · injection h1
    · rw [e] at e2; injection e2 with e2; cases e2
  cases A with
  | none =>
    obtain rfl := hA rfl
    obtain rfl : n = 0 := by omega
    go_enter Try.func24, Try.ntmps24
    go_wp2_with (at_builtin; refine wpList_append_lies _ ?_ (.tmp 23) (.tmp 24) 22 ?_ B 41 i0 _ 3 24 Try.underlying22 hi hz0 hz1 hz2 rfl (by omega) (.slice none 0 0) 0 (flat l) ?_ ho ⟨xb, 0, none⟩ 1 1 xs ?_ hsl ?_ hone (by omega) (by unfold maxLen; omega) (by omega) (by omega) _ rfl ?_; rfl; rfl; rfl; rfl; (exact hnews); intro g cap2 w2 hown2 hg2 hat2 hlt2; have hb_w2 : Below B _ w2 := (Below.refl _ _).grown hg2 (by first | omega | (simp; omega) | simp) (fun k hk => ho.lt k hk |>.1))
    go_ret
    exact ⟨_, cap2, rfl, by have h9 := HV.out; simp only [List.take_zero, List.drop_zero, List.nil_append] at h9; rw [h9]; exact hown2, hg2⟩
  | some a =>
    obtain ⟨ab, ao, asp⟩ := a
    by_cases hcn : cap = n
    · subst hcn
      go_enter Try.func24, Try.ntmps24
      go_wp2_with (at_builtin; refine wpList_append_lies _ ?_ (.tmp 23) (.tmp 24) 22 ?_ B 41 i0 _ 3 24 Try.underlying22 hi hz0 hz1 hz2 rfl (by omega) (.slice (some ⟨ab, ao, asp⟩) cap cap) cap (flat l) ?_ ho ⟨xb, 0, none⟩ 1 1 xs ?_ hsl ?_ hone (by omega) (by unfold maxLen; omega) (by omega) (by omega) _ rfl ?_; rfl; rfl; rfl; rfl; (exact hnews); intro g cap2 w2 hown2 hg2 hat2 hlt2; have hb_w2 : Below B _ w2 := (Below.refl _ _).grown hg2 (by first | omega | (simp; omega) | simp) (fun k hk => ho.lt k hk |>.1))
      all_goals
        go_ret
        exact ⟨_, cap2, rfl, by rw [HV.out]; exact hown2, hg2⟩
    · go_enter Try.func24, Try.ntmps24
      go_wp2_with (at_builtin; refine wpList_append_lies _ ?_ (.tmp 23) (.tmp 24) 22 ?_ B 41 i0 _ 3 24 Try.underlying22 hi hz0 hz1 hz2 rfl (by omega) (.slice (some ⟨ab, ao, asp⟩) n cap) n (flat l) ?_ ho ⟨xb, 0, none⟩ 1 1 xs ?_ hsl ?_ hone (by omega) (by unfold maxLen; omega) (by omega) (by omega) _ rfl ?_; rfl; rfl; rfl; rfl; (exact hnews); intro g cap2 w2 hown2 hg2 hat2 hlt2; have hb_w2 : Below B _ w2 := (Below.refl _ _).grown hg2 (by first | omega | (simp; omega) | simp) (fun k hk => ho.lt k hk |>.1))
      all_goals
        go_ret
        exact ⟨_, cap2, rfl, by rw [HV.out]; exact hown2, hg2⟩
set_option maxHeartbeats 4000000 in
set_option maxRecDepth 100000 in
theorem cinsert_room {B xb i g : Nat} (s : Sc) (hA : A = some ⟨g, 0, none⟩) (ho : OwnsC w B (.slice A l.length cap) l) (hB : B ≤ w.heap.size) (h64 : l.length ≤ 1000000) (hil : i < l.length) (hx : w.heap[xb]? = some (.cells #[.int .u64 s.a, .int .u8 s.k, .int .u64 s.t] 41 (0, 0))) (hne : g ≠ xb) (hroom : l.length + 1 ≤ cap) :
    Calls Try.prog 24 #[.slice A l.length cap, .int .i64 (i : Nat), .slice (some ⟨xb, 0, none⟩) 1 1] w fun e w' => InsC w B A l i s e w' := by
  obtain ⟨i0, hi, hz0, hz1, hz2⟩ := info_parts info_sc
  subst hA
  unfold InsC
  obtain ⟨hlen, ⟨h1, _⟩ | ⟨g', cap', cur, e, hBg, hg, hc, hmx, hcs, htk⟩⟩ := id ho
  · cases h1
  injection e with e1 e2 e3
  injection e1 with e1
  injection e1 with e1
  subst e1 e3
  have hsz : (Try.prog.info? 41).map (·.size) = some 3 := by rw [hi]; simp [hz1]
  have hzS : ∀ w, (Go.sizeOf 41).run Try.prog w = .ok 3 w := fun w => by simp [sizeOf, typeInfo, hi, hz1]
  have hxs : w.shape? xb = some (41, 3) := by simp [World.shape?, hx]
  have hgs : w.shape? g = some (41, cur.size) := by simp [World.shape?, hg]
  have hov : ∀ lb cb, (callFunc 35 #[.slice (some ⟨xb, 0, none⟩) 1 1, .slice (some ⟨g, (i + 1) * 3, none⟩) lb cb]).run Try.prog w = .ok (.value (.bool false)) w := fun lb cb => by
    rw [run_callFunc_extern Try.func35 (by kernel_rfl) (by kernel_rfl) (by kernel_rfl) (e := Extern.SlicesOverlaps.overlaps #[22, 22] #[4]) (by kernel_rfl),
      Lib.run_overlaps_apart w 22 4 41 Try.underlying22 3 hzS ⟨xb, 0, none⟩ ⟨g, (i + 1) * 3, none⟩ 1 1 lb cb (fun e => hne e.symm) 41 41 3 cur.size hxs hgs (by omega) (by simp [World.frozen?, hx]) (by simp [World.frozen?, hx])]
    rfl
  have hQl : (flat (l.drop i)).length = (l.length - i) * 3 := by rw [length_flat, List.length_drop]
  have hPl : (flat (l.take i)).length = i * 3 := by rw [length_flat, List.length_take]; omega
  have hcl : cur.toList.length = cap * 3 := by rw [← hcs]; exact Array.length_toList
  have hsp := splice_ins cur.toList (scc s) (flat (l.drop i)) (i * 3) (by rw [hQl, show (scc s).length = 3 from rfl, hcl]; omega)
  have hfin : Hid ((splice (splice cur.toList ((i + 1) * 3) (flat (l.drop i))) (i * 3) (scc s)).take ((l.length + 1) * 3) = flat (l.take i ++ s :: l.drop i) ∧ (splice (splice cur.toList ((i + 1) * 3) (flat (l.drop i))) (i * 3) (scc s)).length = cap * 3) := Lib.hid (by
    rw [show (scc s).length = 3 from rfl, hQl, show i * 3 + 3 = (i + 1) * 3 by omega, show (i + 1) * 3 + (l.length - i) * 3 = (l.length + 1) * 3 by omega] at hsp
    refine ⟨?_, by rw [hsp.2, hcl]⟩
    rw [hsp.1, flat_ins]
    congr 1
    have e5 : cur.toList.take (i * 3) = (cur.toList.take (l.length * 3)).take (i * 3) := by rw [List.take_take, Nat.min_eq_left (by omega)]
    rw [e5, htk, flat_take])
  have hcell : ∀ j v, (flat (l.drop i))[j]? = some v → w.cell? ⟨g, i * 3 + j, none⟩ = some v := fun j v hv => by
    refine owns_cell (B := B) (cap := cap) hg htk (i * 3 + j) v ?_
    rw [← flat_drop, List.getElem?_drop] at hv
    exact hv
  have hxc : ∀ j v, (scc s)[j]? = some v → w.cell? ⟨xb, 0 + j, none⟩ = some v := fun j v hv => by
    rw [Nat.zero_add, cell_of_row w xb j _ _ _ hx, ← hv]
    simp [scc]
  have hf1 := flat_one (l.drop i)
  have hs1 := scc_one s
  have hs3 : (scc s).length = 1 * 3 := rfl
  have hw1 : IntKind.i64.wrap ((i : Int) + 1) = (i : Int) + 1 := by rw [IntKind.wrap_i64]; omega
  have hb1 : (0 : Int) ≤ (i : Int) + 1 := by omega
  have hin : i ≤ l.length := by omega
  have htn : ((i : Int) + 1).toNat = i + 1 := by omega
  have hb2 : ¬ (cap = i + 1) := by omega
  have hb3 : (i : Int) ≤ (l.length : Int) + 1 := by omega
  have hb4 : ¬ (cap = i) := by omega
  have hb5 : ¬ ((i : Int) = (l.length : Int)) := by omega
  have hb6 : ¬ (cap < l.length + 1) := by omega
  have hmx2 : (cap : Int) ≤ 9223372036854775807 := by unfold maxLen at hmx; omega
  have hfit : i * 3 + (scc s).length ≤ (splice cur.toList ((i + 1) * 3) (flat (l.drop i))).length := by
    rw [length_splice _ _ _ (by rw [hQl, hcl]; omega), hcl, show (scc s).length = 3 from rfl]
    omega
  clear hsp hlen htk hPl
  generalize hX : scc s = X at *
  generalize hQ : flat (l.drop i) = Q at *
  clear hX hQ
  go_enter Try.func24, Try.ntmps24
  go_wp2_with (simp only [hov])
  go_region_law (refine step_copyk rfl (.tmp 73) (.tmp 76) 22 22 rfl 41 Try.underlying22 3 hsz g ((i + 1) * 3) ((i + 1) * 3) (l.length + 1 - (i + 1)) (cap - (i + 1)) g (i * 3) (i * 3) (l.length + 1 - i) (cap - i) (by simp [Act.eval, Act.put]) (by simp [Act.eval, Act.put]) rfl rfl cur.toList 41 (by exact (by simpa using hg : w.heap[g]? = some (.cells cur.toList.toArray 41 (0, 0)))) (l.length - i) (by simp only [Nat.min_def]; split <;> omega) Q hQl (by simpa using hcell) (by rw [hQl, hcl]; omega) hf1 ?_; intro w2 hg2 hgr2)
  have hx2 : ∀ j v, X[j]? = some v → w2.cell? ⟨xb, 0 + j, none⟩ = some v := fun j v hv => hgr2.cell (hxc j v hv) (by simp; exact fun e => hne e.symm)
  go_wp2_with (refine wpList_copyk ?_ (.tmp 80) (.tmp 81) 22 22 ?_ 41 Try.underlying22 3 hsz g (i * 3) (i * 3) (l.length + 1 - i) (cap - i) xb 0 0 1 1 ?_ ?_ rfl rfl (splice cur.toList ((i + 1) * 3) Q) 41 hg2.out 1 (by show _ = min _ _; omega) X hs3 hx2 ?_ hs1 ?_; rfl; rfl; rfl; rfl; (exact hfit); intro w3 hg3 hgr3)
  go_ret
  refine ⟨some ⟨g, 0, none⟩, cap, rfl, ?_, ⟨hgr3.os.trans hgr2.os, hgr3.tape.trans hgr2.tape, hgr3.output.trans hgr2.output, Nat.le_trans hgr2.size hgr3.size, fun k hk hne2 => (hgr3.block k (Nat.lt_of_lt_of_le hk hgr2.size) hne2).trans (hgr2.block k hk hne2)⟩⟩
  refine ⟨?_, .inr ⟨g, cap, _, rfl, hBg, hg3.out, hroom, hmx, ?_, ?_⟩⟩
  · rw [length_flat]
    simp only [List.length_append, List.length_take, List.length_cons, List.length_drop]
    omega
  · rw [List.size_toArray]; exact hfin.out.2
  · exact hfin.out.1
end
end Go.Proofs.Ytamnfgpoelbgcaa
