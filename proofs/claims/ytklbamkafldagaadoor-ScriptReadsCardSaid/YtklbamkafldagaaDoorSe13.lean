/- Contracts of package script: Parse. -/
import Derived.Test.YtklbamkafldagaaDoorSe12
import Derived.OwnWalk
namespace Go.Proofs.YtklbamkafldagaaDoor
open Go.RowKit
set_option linter.unusedVariables false
set_option linter.unusedSimpArgs false

theorem splitK_le (sep : List UInt8) : ∀ (k : Nat) (s x : List UInt8), x ∈ Lib.splitK sep 0 k s → x.length ≤ s.length
  | 0, s, x, h => by
    simp only [Lib.splitK, List.mem_singleton] at h
    subst h
    exact Nat.le_refl _
  | k + 1, s, x, h => by
    rw [Lib.splitK] at h
    split at h
    · rw [List.mem_singleton] at h
      subst h
      exact Nat.le_refl _
    · rw [List.mem_cons] at h
      rcases h with rfl | h
      · simp only [List.length_take]; omega
      · have := splitK_le sep k _ x h
        simp only [List.length_drop] at this
        omega
/-- a text's lines -/
def linesB (s : ByteArray) : List ByteArray := Lib.splitB ⟨#[10]⟩ 0 (Lib.countB s ⟨#[10]⟩) s
theorem linesB_data (s : ByteArray) : (linesB s).map (fun x => x.data.toList) = Lib.split s.data.toList [10] := Lib.splitB_data ⟨#[10]⟩ 0 _ s
theorem linesB_len (s : ByteArray) : (linesB s).length = Lib.countB s ⟨#[10]⟩ + 1 := Lib.splitB_all ⟨#[10]⟩ (by decide) 0 _ s rfl
theorem linesB_le (s : ByteArray) (k : Nat) (hk : k < (linesB s).length) : (linesB s)[k].size ≤ s.size := by
  have h1 : (linesB s)[k].data.toList ∈ (linesB s).map (fun x => x.data.toList) := List.mem_map.2 ⟨_, List.getElem_mem hk, rfl⟩
  rw [linesB_data] at h1
  have h2 := splitK_le _ _ _ _ h1
  have e1 : (linesB s)[k].data.toList.length = (linesB s)[k].size := Array.length_toList
  have e2 : s.data.toList.length = s.size := Array.length_toList
  omega
theorem lines_drop (s : ByteArray) (k : Nat) (hk : k < (linesB s).length) : (Lib.split s.data.toList [10]).drop k = (linesB s)[k].data.toList :: (Lib.split s.data.toList [10]).drop (k + 1) := by
  rw [← linesB_data, List.drop_eq_getElem_cons (by simpa using hk)]
  simp
theorem owns_monoE {w : World} {B B' s n : Nat} {e : TypeId} {v : Value} {xs : List Value} (h : w.ownsRow B e s v n xs) (hB : B' ≤ B) : w.ownsRow B' e s v n xs := by
  obtain ⟨h0, h1 | ⟨g, c, cur, h1, h2, h3⟩⟩ := h
  · exact ⟨h0, .inl h1⟩
  · exact ⟨h0, .inr ⟨g, c, cur, h1, Nat.le_trans hB h2, h3⟩⟩
theorem fl_liesG (w : World) (g : Nat) (hg : w.heap.size = g) (cs : List Value) (t : TypeId) : ∀ j u, cs[j]? = some u → (w.alloc (.cells cs.toArray t)).cell? ⟨g, 0 + j, none⟩ = some u := by
  subst hg
  exact fl_lies w cs t
def ParsedR (w : World) (R : List Ev × Nat × Int) (r : Ending) (w' : World) : Prop := ∃ A cap, r = .returned (.tuple #[.slice A R.1.length cap, .int .i64 (R.2.1 : Nat), .int .i64 R.2.2]) ∧ OwnsE w' w.heap.size (.slice A R.1.length cap) R.1 ∧ Below w.heap.size w w'
theorem parsed_no {w w' : World} {R : List Ev × Nat × Int} {k : Nat} {y : Int} (hR : R = ([], k, y)) (hb : Below w.heap.size w w') (z : Int) (hz : z = (k : Nat)) : ParsedR w R (.returned (.tuple #[.slice none 0 0, .int .i64 z, .int .i64 y])) w' := by
  subst hR hz
  exact ⟨none, 0, rfl, own_nilE _ _ 0, hb⟩
section
variable {w : World}
theorem ssplit_any (s : ByteArray) (hs : s.size ≤ 65536) (hL : Lw w) : Calls Tryd.prog 23 #[.string s, .string ⟨#[10]⟩] w fun e w' => e = .returned (.slice (some ⟨w.heap.size, 0, none⟩) (linesB s).length (linesB s).length) ∧ (∀ k (hk : k < (linesB s).length), w'.cell? ⟨w.heap.size, k, none⟩ = some (.string (linesB s)[k])) ∧ w.heap.size < w'.heap.size ∧ Below w.heap.size w w' := by
  obtain ⟨m, hm⟩ := hL.mx
  refine (L_strings_Split s ⟨#[10]⟩ m w (by omega) hm (by decide)).mono ?_
  rintro e w' ⟨rfl, rfl⟩
  refine ⟨by rw [linesB_len], fun k hk => ?_, by simp, Below.alloc (Below.refl _ _) (Nat.le_refl _) _⟩
  show (w.alloc (.cells ((linesB s).map Value.string).toArray 9)).cell? _ = _
  rw [cell_of_row _ _ k _ _ _ (heap_alloc_new w (.cells ((linesB s).map Value.string).toArray 9))]
  simp [hk]
set_option maxHeartbeats 4000000 in
theorem scriptParse_any (s : ByteArray) (hL : Lw w) : Calls Tryd.prog 8 #[.string s] w fun e w' => ParsedR w (readT s.data.toList) e w' := by
  have hlen : s.data.toList.length = s.size := Array.length_toList
  by_cases hbig : 65536 < s.size
  · have d1 : decide (65536 < (s.size : Int)) = true := decide_eq_true (by omega)
    have hR : readT s.data.toList = ([], 0, 1) := by unfold readT; rw [if_pos (by omega)]
    have HR := Lib.hid hR
    clear hR
    generalize readT s.data.toList = RT at *
    go_enter Tryd.func8, Tryd.ntmps8
    go_wp2
    go_ret3
    exact parsed_no HR.out (by repeat (first | exact Below.refl _ _ | assumption | (refine below_drewN ?_ _) | (refine Below.drew ?_) | (refine Below.alloc ?_ (by first | omega | (simp; omega) | simp) _) | (refine Below.setCell ?_ (by first | omega | (simp; omega) | simp) _) | (refine below_trans ?_ (by assumption) (by first | omega | (simp; omega) | simp)))) _ rfl
  · have d1 : decide (65536 < (s.size : Int)) = false := decide_eq_false (by omega)
    have hR : readT s.data.toList = readL ((Lib.split s.data.toList [10]).drop 0) 0 [] := by unfold readT; rw [if_neg (by omega)]; rfl
    have HS := Lib.hid fun (w : World) hL => ssplit_any (w := w) s (by omega) hL
    have HLE := Lib.hid (linesB_le s)
    have HD := Lib.hid (lines_drop s)
    have hN : (linesB s).length ≤ 65537 := by
      rw [linesB_len]
      have := Lib.countB_le ⟨#[10]⟩ (by decide) s.size s (Nat.le_refl _)
      omega
    have HEND : Hid ((Lib.split s.data.toList [10]).drop (linesB s).length = []) := Lib.hid (by
      rw [← linesB_data, List.drop_eq_nil_iff]
      simp)
    have HR := Lib.hid hR
    clear hR hlen
    generalize readT s.data.toList = RT at *
    generalize (Lib.split s.data.toList [10]) = LL at *
    generalize linesB s = lines at *
    go_enter Tryd.func8, Tryd.ntmps8
    go_wp2_with fail
    go_at_call 22
    refine (named_any).mono ?_
    rintro e w1 ⟨M, rfl, oM, hM1, hb_w1⟩
    obtain ⟨hc_w1, hf_w1⟩ := bcell hb_w1; have hs_w1 := hb_w1.size; (try simp only [World.size_alloc, World.size_setCell, World.size_drew, World.heap_drewN] at hs_w1)
    go_wp2_with fail
    go_at_call 23
    refine (HS.out _ (hL.later (by repeat (first | exact Below.refl _ _ | assumption | (refine below_drewN ?_ _) | (refine Below.drew ?_) | (refine Below.alloc ?_ (by first | omega | (simp; omega) | simp) _) | (refine Below.setCell ?_ (by first | omega | (simp; omega) | simp) _) | (refine below_trans ?_ (by assumption) (by first | omega | (simp; omega) | simp)))))).mono ?_
    rintro e w2 ⟨rfl, hcl, hs12, hb_w2⟩
    obtain ⟨hc_w2, hf_w2⟩ := bcell hb_w2; have hs_w2 := hb_w2.size; (try simp only [World.size_alloc, World.size_setCell, World.size_drew, World.heap_drewN] at hs_w2)
    have hL2 := (hL.later hb_w1).later hb_w2
    have oM2 := oM.later hb_w2
    have hMs : M < w1.heap.size := oM.lt
    have HCL := Lib.hid hcl
    have b02 : Below w.heap.size w w2 := (by repeat (first | exact Below.refl _ _ | assumption | (refine below_drewN ?_ _) | (refine Below.drew ?_) | (refine Below.alloc ?_ (by first | omega | (simp; omega) | simp) _) | (refine Below.setCell ?_ (by first | omega | (simp; omega) | simp) _) | (refine below_trans ?_ (by assumption) (by first | omega | (simp; omega) | simp))))
    have hs02 := b02.size
    clear hcl oM hb_w1 hb_w2 hs_w1 hs_w2
    generalize hg1 : w1.heap.size = g1 at *
    clear hg1
    go_wp2_with fail
    go_loopw [5, 18] (fun ll ii wr => ∃ (k : Nat) (A : Option Addr) (cap : Nat) (acc : List Ev), ii = .int .i64 (k : Nat) ∧ k ≤ lines.length ∧ ll = .slice A acc.length cap ∧ wr.ownsRow w2.heap.size 41 5 (.slice A acc.length cap) acc.length (flatE acc) ∧ Hid (readL (LL.drop k) k acc = RT) ∧ Hid (acc.length ≤ 4096) ∧ Below w2.heap.size w2 wr) (fun ll ii _ => lines.length - (intOf ii).toNat)
    case atStart => exact ⟨0, none, 0, [], rfl, Nat.zero_le _, rfl, World.ownsRow_nil _ _ _ _, Lib.hid HR.out.symm, Lib.hid (by simp), (by repeat (first | exact Below.refl _ _ | assumption | (refine below_drewN ?_ _) | (refine Below.drew ?_) | (refine Below.alloc ?_ (by first | omega | (simp; omega) | simp) _) | (refine Below.setCell ?_ (by first | omega | (simp; omega) | simp) _) | (refine below_trans ?_ (by assumption) (by first | omega | (simp; omega) | simp))))⟩
    case round =>
      obtain ⟨k, A, cap, acc, rfl, hk, rfl, own, hrd, hacc, hb_wr⟩ := hrel
      have hsr := hb_wr.size
      have OW := Lib.hid own
      clear own
      by_cases hlt : k < lines.length
      · have hx := HCL.out k hlt
        have hxr : wr.cell? ⟨g1, k, none⟩ = some (.string lines[k]) := (hb_wr.cell (p := ⟨g1, k, none⟩) hs12).trans hx
        have hd := HD.out k hlt
        have hxs := HLE.out k hlt
        have hrd2 := hrd.out
        rw [hd] at hrd2
        have HRD := Lib.hid hrd2
        clear hx hd hrd hrd2
        have d2 : decide ((k : Int) < (lines.length : Int)) = true := decide_eq_true (by omega)
        have hk0 : (0 : Int) ≤ (k : Int) := by omega
        have hk1 : (k : Int) < (lines.length : Int) := by omega
        generalize lines[k] = x at *
        by_cases he : x.data.toList = []
        · have e1 : x.toList.isEmpty = true := by rw [ByteArray.toList_eq, he]; rfl
          have HX : Hid (readL (LL.drop (k + 1)) (k + 1) acc = RT) := Lib.hid (by rw [← HRD.out, readL, if_pos he])
          clear HRD he hlt
          go_wp2
          go_roundw
          case rel => exact ⟨k + 1, A, cap, acc, by go_num, by omega, rfl, OW.out, HX, hacc, (by repeat (first | exact Below.refl _ _ | assumption | (refine below_drewN ?_ _) | (refine Below.drew ?_) | (refine Below.alloc ?_ (by first | omega | (simp; omega) | simp) _) | (refine Below.setCell ?_ (by first | omega | (simp; omega) | simp) _) | (refine below_trans ?_ (by assumption) (by first | omega | (simp; omega) | simp))))⟩
          case measure => simp [intOf]; omega
        · have e1 : x.toList.isEmpty = false := by rw [ByteArray.toList_eq]; simpa using he
          have HR1 := HRD.out
          rw [readL, if_neg he] at HR1
          have HR2 := Lib.hid HR1
          clear HRD HR1 he hlt
          go_wp2_with fail
          go_at_call 24
          refine (parse_any M x (by omega) (hL2.later hb_wr) (oM2.later hb_wr)).mono ?_
          rintro e w3 ⟨ev, ok, rfl, hrd1, hb_w3⟩
          obtain ⟨hc_w3, hf_w3⟩ := bcell hb_w3; have hs_w3 := hb_w3.size; (try simp only [World.size_alloc, World.size_setCell, World.size_drew, World.heap_drewN] at hs_w3)
          have HP := Lib.hid hrd1
          clear hrd1
          obtain ⟨ea, eb, ec, ed, en⟩ := ev
          unfold evv
          simp only
          cases ok with
          | false =>
            have hx2 := HR2.out
            rw [HP.out] at hx2
            have HX := Lib.hid hx2
            clear hx2 HR2 HP
            have z1 : IntKind.i64.wrap ((k : Int) + 1) = (k : Int) + 1 := by unfold IntKind.wrap; simp [IntKind.signed, IntKind.bits]; omega
            go_wp2
            go_ret3
            exact parsed_no HX.out.symm (by repeat (first | exact Below.refl _ _ | assumption | (refine below_drewN ?_ _) | (refine Below.drew ?_) | (refine Below.alloc ?_ (by first | omega | (simp; omega) | simp) _) | (refine Below.setCell ?_ (by first | omega | (simp; omega) | simp) _) | (refine below_trans ?_ (by assumption) (by first | omega | (simp; omega) | simp)))) _ (by omega)
          | true =>
            have hx2 := HR2.out
            rw [HP.out] at hx2
            simp only [if_true] at hx2
            by_cases hf : 4096 ≤ acc.length
            · rw [if_pos hf] at hx2
              have HX := Lib.hid hx2
              have d3 : decide (4096 ≤ (acc.length : Int)) = true := decide_eq_true (by omega)
              clear hx2 HR2 HP hf
              go_wp2
              go_ret3
              exact parsed_no HX.out.symm (by repeat (first | exact Below.refl _ _ | assumption | (refine below_drewN ?_ _) | (refine Below.drew ?_) | (refine Below.alloc ?_ (by first | omega | (simp; omega) | simp) _) | (refine Below.setCell ?_ (by first | omega | (simp; omega) | simp) _) | (refine below_trans ?_ (by assumption) (by first | omega | (simp; omega) | simp)))) _ (by omega)
            · rw [if_neg hf] at hx2
              have HX := Lib.hid hx2
              have d3 : decide (4096 ≤ (acc.length : Int)) = false := decide_eq_false (by omega)
              have HF : Hid (acc.length < 4096) := Lib.hid (by omega)
              clear hx2 HR2 HP hf
              have OW1 := Lib.hid (owns_laterE OW.out (show Below wr.heap.size wr w3 from (by repeat (first | exact Below.refl _ _ | assumption | (refine below_drewN ?_ _) | (refine Below.drew ?_) | (refine Below.alloc ?_ (by first | omega | (simp; omega) | simp) _) | (refine Below.setCell ?_ (by first | omega | (simp; omega) | simp) _) | (refine below_trans ?_ (by assumption) (by first | omega | (simp; omega) | simp))))))
              have HFL := Lib.hid (flatE_append acc [⟨ea, eb, ec, ed, en⟩])
              go_wp2_with (at_builtin; refine wpList_appendE ?_ (.tmp 40) (.tmp 42) ?_ w2.heap.size A cap acc.length (flatE acc) ?_ (owns_laterE OW1.out (show Below w3.heap.size w3 _ from (by repeat (first | exact Below.refl _ _ | assumption | (refine below_drewN ?_ _) | (refine Below.drew ?_) | (refine Below.alloc ?_ (by first | omega | (simp; omega) | simp) _) | (refine Below.setCell ?_ (by first | omega | (simp; omega) | simp) _) | (refine below_trans ?_ (by assumption) (by first | omega | (simp; omega) | simp)))))) (some ⟨w3.heap.size + 1, 0, none⟩) 1 1 (flatE [⟨ea, eb, ec, ed, en⟩]) ?_ rfl (fun _ => ⟨w3.heap.size + 1, 0, rfl, fl_liesG _ _ (by simp) (flatE [⟨ea, eb, ec, ed, en⟩]) _⟩) (flatE_one _) (by have := HF.out; omega) (by simp; omega) ?_; rfl; rfl; rfl; rfl; intro A7 cap7 w7 hown7 hg7 hb_w7 hat7; have hs7 := hb_w7.size)
              rw [← HFL.out] at hown7
              have HO7 := Lib.hid hown7
              clear hown7
              go_roundw
              case rel => exact ⟨k + 1, A7, cap7, acc ++ [⟨ea, eb, ec, ed, en⟩], by go_num, by omega, by rw [List.length_append]; rfl, by rw [List.length_append]; exact HO7.out, HX, Lib.hid (by have := HF.out; simp; omega), (by repeat (first | exact Below.refl _ _ | assumption | (refine below_drewN ?_ _) | (refine Below.drew ?_) | (refine Below.alloc ?_ (by first | omega | (simp; omega) | simp) _) | (refine Below.setCell ?_ (by first | omega | (simp; omega) | simp) _) | (refine below_trans ?_ (by assumption) (by first | omega | (simp; omega) | simp))))⟩
              case measure => simp [intOf]; omega
      · obtain rfl : k = lines.length := by omega
        have hr9 := hrd.out
        rw [HEND.out, readL] at hr9
        have HR9 := Lib.hid hr9
        have d2 : decide ((lines.length : Int) < (lines.length : Int)) = false := decide_eq_false (by omega)
        clear hr9 hrd
        go_wp2
        go_ret3
        rw [← HR9.out]
        exact ⟨A, cap, rfl, owns_monoE OW.out hs02, (by repeat (first | exact Below.refl _ _ | assumption | (refine below_drewN ?_ _) | (refine Below.drew ?_) | (refine Below.alloc ?_ (by first | omega | (simp; omega) | simp) _) | (refine Below.setCell ?_ (by first | omega | (simp; omega) | simp) _) | (refine below_trans ?_ (by assumption) (by first | omega | (simp; omega) | simp))))⟩
end
end Go.Proofs.YtklbamkafldagaaDoor
