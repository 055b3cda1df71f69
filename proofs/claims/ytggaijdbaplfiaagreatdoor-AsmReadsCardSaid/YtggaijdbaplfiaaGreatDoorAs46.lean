/- Contracts of the document's package: words, at. -/
import Derived.Test.YtggaijdbaplfiaaGreatDoorAs40
import Derived.Test.YtggaijdbaplfiaaGreatDoorAs12
namespace Go.Proofs.YtggaijdbaplfiaaGreatDoor
open Go.RowKit
set_option linter.unusedVariables false
set_option linter.unusedSimpArgs false
theorem ext_one (s : ByteArray) (k : Nat) (hk : k < s.size) : s.extract k (k + 1) = bs [s.data.toList[k]'hk] := by
  have e : (s.extract k (k + 1)).data.toList = [s.data.toList[k]'hk] := by
    rw [ByteArray.data_extract]
    simp only [Array.toList_extract, List.extract_eq_take_drop, Nat.add_sub_cancel_left]
    rw [List.drop_eq_getElem_cons (show k < s.data.toList.length from hk), List.take_succ_cons, List.take_zero]
  rw [← bs_of (s.extract k (k + 1)), e]
section
variable {w : World}
set_option maxRecDepth 100000 in
set_option maxHeartbeats 8000000 in
theorem xwords_any (s : ByteArray) (hs : s.size ≤ 65536) (c : UInt8) : Calls Tryz.prog 23 #[.string s, .int .u8 (c.toNat : Nat)] w fun e w' => ∃ A cap, e = .returned (.slice A (Lib.split s.data.toList [c]).length cap) ∧ w'.ownsRow w.heap.size 9 1 (.slice A (Lib.split s.data.toList [c]).length cap) (Lib.split s.data.toList [c]).length ((Lib.split s.data.toList [c]).map sv) ∧ Below w.heap.size w w' := by
  have hlen : s.data.toList.length = s.size := Array.length_toList
  have HW0 : Hid (wordsD c [] (s.data.toList.drop 0) = Lib.split s.data.toList [c]) := Lib.hid (by rw [List.drop_zero, wordsD_split c _ [] (by simp), List.nil_append])
  have HWA := Lib.hid fun cur k (hk : k < s.data.toList.length) => wordsD_at c cur s.data.toList k hk
  have HWE : Hid (∀ cur, wordsD c cur (s.data.toList.drop s.size) = [cur]) := Lib.hid fun cur => by rw [← hlen]; exact wordsD_end c cur _
  have HXO := Lib.hid fun k hk => ext_one s k hk
  have HV := Lib.hid fun d : UInt8 => @UInt8.toNat_inj d c
  generalize Lib.split s.data.toList [c] = ws at *
  have hHV : Hid (∀ d : UInt8, (d.toNat = c.toNat ↔ d = c)) := HV
  obtain ⟨v, hv⟩ : ∃ v, c.toNat = v := ⟨_, rfl⟩
  rw [hv] at HV ⊢
  clear hv hHV
  go_enter Tryz.func23, Tryz.ntmps23
  go_wp2_with fail
  go_loopw [5, 6, 7] (fun oo ww ii wr => ∃ (k : Nat) (outs : List (List UInt8)) (cur : List UInt8) (R : Option Addr) (rc : Nat), oo = .slice R outs.length rc ∧ ww = .string (bs cur) ∧ ii = .int .i64 (k : Nat) ∧ k ≤ s.size ∧ Hid (outs ++ wordsD c cur (s.data.toList.drop k) = ws) ∧ cur.length ≤ k ∧ outs.length ≤ k ∧ Hid (wr.ownsRow w.heap.size 9 1 (.slice R outs.length rc) outs.length (outs.map sv)) ∧ Below w.heap.size w wr) (fun oo ww ii _ => s.size - (intOf ii).toNat)
  case atStart => exact ⟨0, [], [], none, 0, rfl, rfl, rfl, Nat.zero_le _, Lib.hid (by rw [List.nil_append]; exact HW0.out), Nat.zero_le _, Nat.zero_le _, Lib.hid (World.ownsRow_nil _ _ _ _), (by repeat (first | exact Below.refl _ _ | assumption | (refine below_drewN ?_ _) | (refine Below.drew ?_) | (refine Below.alloc ?_ (by first | omega | (simp; omega) | simp) _) | (refine Below.setCell ?_ (by first | omega | (simp; omega) | simp) _) | (refine below_trans ?_ (by assumption) (by first | omega | (simp; omega) | simp))))⟩
  case round =>
    clear HW0
    obtain ⟨k, outs, cur, R, rc, rfl, rfl, rfl, hk, HA, hcl, hol, OW, hb_wr⟩ := hrel
    have hsr := hb_wr.size
    by_cases hlt : k < s.size
    · have hk9 : k < s.data.toList.length := by omega
      have i0 : (0 : Int) ≤ (k : Int) := by omega
      have i1 : (k : Int) < (s.size : Int) := by omega
      have hwa := HWA.out cur k hk9
      have hxo := HXO.out k hlt
      obtain ⟨d, hd⟩ : ∃ d, s.data.toList[k] = d := ⟨_, rfl⟩
      have hC : (s[k]'hlt).toNat = d.toNat := by rw [← hd]; rfl
      have hxo2 : s.extract k (k + 1) = bs [d] := by rw [hxo]; simp only [hd]
      rw [hd] at hwa
      have HA2 := HA.out
      rw [hwa] at HA2
      have hvd := HV.out d
      obtain ⟨q, hq⟩ : ∃ q, d.toNat = q := ⟨_, rfl⟩
      rw [hq] at hC hvd
      clear hwa hxo hd hq HA
      by_cases e : q = v
      · have hdc := hvd.1 e
        rw [if_pos hdc] at HA2
        have HA3 : Hid ((outs ++ [cur]) ++ wordsD c [] (s.data.toList.drop (k + 1)) = ws) := Lib.hid (by rw [List.append_assoc]; exact HA2)
        have HMS : Hid (outs.map sv ++ [.string (bs cur)] = (outs ++ [cur]).map sv) := Lib.hid (by rw [List.map_append]; rfl)
        have hnl : (outs ++ [cur]).length = outs.length + 1 := by simp
        have HNL := Lib.hid hnl
        subst e
        clear HA2 hvd hdc hxo2 hnl
        go_wp2_with (at_builtin; refine wpList_appendS ?_ (.tmp 19) (.tmp 21) ?_ w.heap.size R rc outs.length (outs.map sv) ?_ (owns_laterS OW.out (show Below wr.heap.size wr _ from (by repeat (first | exact Below.refl _ _ | assumption | (refine below_drewN ?_ _) | (refine Below.drew ?_) | (refine Below.alloc ?_ (by first | omega | (simp; omega) | simp) _) | (refine Below.setCell ?_ (by first | omega | (simp; omega) | simp) _) | (refine below_trans ?_ (by assumption) (by first | omega | (simp; omega) | simp)))))) (some ⟨wr.heap.size, 0, none⟩) 1 1 [.string (bs cur)] ?_ rfl (fun _ => ⟨wr.heap.size, 0, rfl, fl_lies wr [.string (bs cur)] _⟩) (by intro u hu; simp at hu; subst hu; rfl) (by omega) (by simp; omega) ?_; rfl; rfl; rfl; rfl; intro A7 cap7 w7 hown7 hg7 hb_w7 hat7; have hs7 := hb_w7.size)
        rw [HMS.out] at hown7
        have OW7 := Lib.hid hown7
        have b7 : Below w.heap.size w w7 := below_trans (Below.alloc hb_wr (by omega) _) hb_w7 (by omega)
        clear hown7 hg7 hb_w7 hat7 HMS
        go_wp2
        go_roundw
        case rel => exact ⟨k + 1, outs ++ [cur], [], A7, cap7, by rw [HNL.out], rfl, by go_num, by omega, HA3, Nat.zero_le _, by rw [HNL.out]; omega, Lib.hid (by rw [HNL.out]; exact OW7.out), b7⟩
        case measure => simp [intOf]; omega
      · have hdc : ¬ d = c := fun h => e (hvd.2 h)
        rw [if_neg hdc] at HA2
        have HA3 := Lib.hid HA2
        have e1 : ((q : Int) == (v : Int)) = false := by simp; omega
        have e2 : (q == v) = false := by simp; exact e
        have HCU : Hid (bs cur ++ bs [d] = bs (cur ++ [d])) := Lib.hid (bs_append _ _)
        have hz : (bs cur).size ≤ 65536 := by rw [bs_size]; omega
        have hz1 : (bs [d]).size = 1 := by rw [bs_size]; rfl
        have z1 : ¬ (9223372036854775807 < (bs cur).size + (bs [d]).size) := by omega
        have hnl : (cur ++ [d]).length = cur.length + 1 := by simp
        have HNL := Lib.hid hnl
        have j1 : (k : Int) ≤ (k : Int) + 1 := by omega
        have j2 : (k : Int) + 1 ≤ (s.size : Int) := by omega
        have j3 : ((k : Int) + 1).toNat = k + 1 := by omega
        have HB : Hid (Below w.heap.size w wr) := Lib.hid hb_wr
        clear HA2 hvd hdc e hnl hz hz1
        generalize bs [d] = B1 at *
        generalize bs cur = B0 at *
        go_wp2
        go_roundw
        case rel => exact ⟨k + 1, outs, cur ++ [d], R, rc, rfl, by rw [← HCU.out], by go_num, by omega, HA3, by rw [HNL.out]; omega, by omega, OW, HB.out⟩
        case measure => simp [intOf]; omega
    · obtain rfl : k = s.size := by omega
      have HA2 := HA.out
      rw [HWE.out] at HA2
      have HMS : Hid (outs.map sv ++ [.string (bs cur)] = ws.map sv ∧ outs.length + 1 = ws.length) := Lib.hid (by rw [← HA2, List.map_append]; exact ⟨rfl, by simp⟩)
      clear HA2 HA
      go_wp2_with (at_builtin; refine wpList_appendS ?_ (.tmp 30) (.tmp 32) ?_ w.heap.size R rc outs.length (outs.map sv) ?_ (owns_laterS OW.out (show Below wr.heap.size wr _ from (by repeat (first | exact Below.refl _ _ | assumption | (refine below_drewN ?_ _) | (refine Below.drew ?_) | (refine Below.alloc ?_ (by first | omega | (simp; omega) | simp) _) | (refine Below.setCell ?_ (by first | omega | (simp; omega) | simp) _) | (refine below_trans ?_ (by assumption) (by first | omega | (simp; omega) | simp)))))) (some ⟨wr.heap.size, 0, none⟩) 1 1 [.string (bs cur)] ?_ rfl (fun _ => ⟨wr.heap.size, 0, rfl, fl_lies wr [.string (bs cur)] _⟩) (by intro u hu; simp at hu; subst hu; rfl) (by omega) (by simp; omega) ?_; rfl; rfl; rfl; rfl; intro A7 cap7 w7 hown7 hg7 hb_w7 hat7; have hs7 := hb_w7.size)
      rw [HMS.out.1] at hown7
      have OW7 := Lib.hid hown7
      have b7 : Below w.heap.size w w7 := below_trans (Below.alloc hb_wr (by omega) _) hb_w7 (by omega)
      have HL := Lib.hid HMS.out.2
      clear hown7 hg7 hb_w7 hat7 HMS
      go_wp2
      go_ret
      rw [← HL.out]
      exact ⟨A7, cap7, rfl, OW7.out, b7⟩
/-- a row of words in memory -/
structure WdRow (w : World) (B : Nat) (A : Option Addr) (ss : List (List UInt8)) : Prop where
  at_ : 0 < ss.length → ∃ b off, A = some ⟨b, off, none⟩ ∧ b < B ∧ ∀ i, i < ss.length → w.cell? ⟨b, off + i, none⟩ = some (.string (bs (ss.getD i [])))
theorem WdRow.later {w w' : World} {A : Option Addr} {ss : List (List UInt8)} (h : WdRow w w.heap.size A ss) (hb : Below w.heap.size w w') : WdRow w' w'.heap.size A ss :=
  ⟨fun hl => by
    obtain ⟨b, off, e, hlt, hc⟩ := h.at_ hl
    exact ⟨b, off, e, Nat.lt_of_lt_of_le hlt hb.size, fun i hi => (hb.cell (p := ⟨b, off + i, none⟩) hlt).trans (hc i hi)⟩⟩
theorem WdRow.of_owns {w : World} {B : Nat} {A : Option Addr} {ss : List (List UInt8)} {cap : Nat} (h : w.ownsRow B 9 1 (.slice A ss.length cap) ss.length (ss.map sv)) : WdRow w w.heap.size A ss :=
  ⟨fun hl => by
    obtain ⟨_, ⟨h1, h2⟩ | ⟨g, cap', cur, e, hB, hg, hc, _, hs, ht⟩⟩ := id h
    · omega
    · injection e with e1 e2 e3
      subst e1
      refine ⟨g, 0, rfl, heap_lt hg, fun i hi => ?_⟩
      rw [Nat.zero_add, h.cellAt i (by omega), List.getElem?_map, List.getD_eq_getElem?_getD, List.getElem?_eq_getElem hi]
      rfl⟩
/-- where a label is: its place among the labels, or -1 -/
def AtR (lb : Lbs) (s : List UInt8) (e : Ending) : Prop := ∃ y : Int, e = .returned (.int .i64 y) ∧ ((y = -1 ∧ lb.lookup s = none) ∨ (∃ k : Nat, ∃ hk : k < lb.length, y = (k : Nat) ∧ lb.lookup s = some lb[k].2))
set_option maxRecDepth 100000 in
set_option maxHeartbeats 4000000 in
theorem xat_any {A : Option Addr} (lb : Lbs) (cap : Nat) (hr : WdRow w w.heap.size A (lb.map (·.1))) (hl : lb.length ≤ 100000) (s : List UInt8) :
    Calls Tryz.prog 25 #[.slice A lb.length cap, .string (bs s)] w fun e w' => AtR lb s e ∧ w' = w := by
  have HA := Lib.hid fun k (hk : k < lb.length) hn h => @look_at lb s k hk hn h
  have HN := Lib.hid fun k (hk : k < lb.length) hn h => @look_next lb s k hk hn h
  have HE : Hid ((lb.take lb.length).lookup s = lb.lookup s) := Lib.hid (by rw [List.take_length])
  have HG : Hid (∀ k (hk : k < lb.length), (lb.map (·.1)).getD k [] = lb[k].1) := Lib.hid fun k hk => by
    rw [List.getD_eq_getElem?_getD, List.getElem?_map, List.getElem?_eq_getElem hk]; rfl
  have hln : (lb.map (·.1)).length = lb.length := List.length_map ..
  have HQ : Hid (∀ y : Int, ((y = -1 ∧ lb.lookup s = none) ∨ (∃ k : Nat, ∃ hk : k < lb.length, y = (k : Nat) ∧ lb.lookup s = some lb[k].2)) → AtR lb s (.returned (.int .i64 y))) := Lib.hid fun y h => ⟨y, rfl, h⟩
  go_enter Tryz.func25, Tryz.ntmps25
  go_wp2_with fail
  go_loopw [9] (fun ii wr => ∃ k : Nat, ii = .int .i64 (k : Nat) ∧ k ≤ lb.length ∧ Hid ((lb.take k).lookup s = none) ∧ wr = w) (fun ii _ => lb.length - (intOf ii).toNat)
  case atStart => exact ⟨0, rfl, Nat.zero_le _, Lib.hid rfl, rfl⟩
  case round =>
    obtain ⟨k, rfl, hk, HP, rfl⟩ := hrel
    by_cases hlt : k < lb.length
    · obtain ⟨b, off, rfl, hbb, hc⟩ := hr.at_ (by omega)
      have c0 := hc k (by omega)
      rw [HG.out k hlt] at c0
      clear hc
      have hk0 : (0 : Int) ≤ (k : Int) := by omega
      have hk1 : (k : Int) < (lb.length : Int) := by omega
      by_cases e : lb[k].1 = s
      · have HR := Lib.hid (HA.out k hlt HP.out e)
        have e1 : ((bs lb[k].1).toList == (bs s).toList) = true := by rw [ByteArray.toList_eq, ByteArray.toList_eq, bs_data, bs_data, e]; simp
        have HF := Lib.hid (HQ.out (k : Int) (.inr ⟨k, hlt, rfl, HR.out⟩))
        generalize bs lb[k].1 = B1 at *
        clear e
        go_wp2
        go_ret
        exact ⟨HF.out, rfl⟩
      · have HR := Lib.hid (HN.out k hlt HP.out e)
        have e1 : ((bs lb[k].1).toList == (bs s).toList) = false := by rw [ByteArray.toList_eq, ByteArray.toList_eq, bs_data, bs_data]; simpa using e
        generalize bs lb[k].1 = B1 at *
        clear e
        go_wp2
        go_roundw
        case rel => exact ⟨k + 1, by go_num, by omega, HR, by first | rfl | trivial⟩
        case measure => simp [intOf]; omega
    · obtain rfl : k = lb.length := by omega
      have HF := Lib.hid (HQ.out (-1) (.inl ⟨rfl, by rw [← HE.out]; exact HP.out⟩))
      go_wp2
      go_ret
      exact ⟨HF.out, rfl⟩
end
end Go.Proofs.YtggaijdbaplfiaaGreatDoor
