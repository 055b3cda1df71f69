/- Contracts of the document's package: Parse; the walk of ScriptReads. -/
import Derived.Test.YtklbamkafldagaaDoorSe34
namespace Go.Proofs.YtklbamkafldagaaDoor
open Go.RowKit
set_option linter.unusedVariables false
set_option linter.unusedSimpArgs false
/-- the lines that are left from f on -/
def restL (t : List UInt8) (f : Nat) : List (List UInt8) := if f ≤ t.length then Lib.split (t.drop f) [10] else []
theorem rest_next {t : List UInt8} {f i : Nat} (hf : f ≤ i) (hi : i ≤ t.length) (h10 : (10 : UInt8) ∉ (t.drop f).take (i - f)) (hx : i < t.length → t[i]? = some 10) : restL t f = ((t.drop f).take (i - f)) :: restL t (i + 1) := by
  unfold restL
  rw [if_pos (by omega)]
  by_cases hlt : i < t.length
  · rw [if_pos (by omega)]
    have h1 : t.drop f = (t.drop f).take (i - f) ++ 10 :: t.drop (i + 1) := by
      have h2 := (List.take_append_drop (i - f) (t.drop f)).symm
      have h3 : (t.drop f).drop (i - f) = t.drop i := by rw [List.drop_drop]; congr 1; omega
      have h4 : t.drop i = 10 :: t.drop (i + 1) := by
        have := hx hlt
        rw [List.getElem?_eq_getElem hlt] at this
        injection this with this
        rw [List.drop_eq_getElem_cons hlt, this]
      rw [h3, h4] at h2
      exact h2
    conv => lhs; rw [h1]
    rw [split_hit _ _ _ h10]
  · have hi' : i = t.length := by omega
    rw [if_neg (by omega)]
    have h1 : (t.drop f).take (i - f) = t.drop f := by rw [List.take_of_length_le (by rw [List.length_drop]; omega)]
    rw [h1] at h10 ⊢
    rw [split_miss _ _ h10]
theorem no10_next {t : List UInt8} {f i : Nat} (hf : f ≤ i) (h10 : (10 : UInt8) ∉ (t.drop f).take (i - f)) (hx : ∀ h : i < t.length, t[i] ≠ 10) (hi : i < t.length) : (10 : UInt8) ∉ (t.drop f).take (i + 1 - f) := by
  rw [show i + 1 - f = (i - f) + 1 by omega, List.take_add_one]
  intro h
  rw [List.mem_append] at h
  rcases h with h | h
  · exact h10 h
  · rw [List.getElem?_drop, show f + (i - f) = i by omega, List.getElem?_eq_getElem hi] at h
    simp only [Option.toList_some, List.mem_singleton] at h
    exact hx hi h.symm
theorem ext_list (s : ByteArray) (f i : Nat) : (s.extract f i).data.toList = (s.data.toList.drop f).take (i - f) := by
  rw [ByteArray.data_extract]
  simp
section
variable {w : World}
theorem xread_agg (s : ByteArray) (hs : s.size ≤ 65536) : Calls Tryd.prog 25 #[.string s] w fun e w' => ∃ (a : Bool) (b c d n : Int) (ok : Bool), e = .returned (.tuple #[.agg #[.bool a, .int .i64 b, .int .u8 c, .int .i64 d, .int .i64 n], .bool ok]) ∧ (read1 s.data.toList = if ok then some ⟨a, b, c, d, n⟩ else none) ∧ Below w.heap.size w w' := by
  refine Calls.mono (xread_any s hs) ?_
  rintro e w' ⟨⟨a, b, c, d, n⟩, ok, rfl, h, hb⟩
  exact ⟨a, b, c, d, n, ok, rfl, h, hb⟩
set_option maxRecDepth 100000 in
set_option maxHeartbeats 8000000 in
theorem xparse_any (s : ByteArray) : Calls Tryd.prog 9 #[.string s] w fun e w' => ParsedR w (readT s.data.toList) e w' := by
  have hlen : s.data.toList.length = s.size := Array.length_toList
  by_cases hbig : 65536 < s.size
  · have d1 : decide (65536 < (s.size : Int)) = true := decide_eq_true (by omega)
    have hR : readT s.data.toList = ([], 0, 1) := by unfold readT; rw [if_pos (by omega)]
    have HR := Lib.hid hR
    clear hR
    generalize readT s.data.toList = RT at *
    go_enter Tryd.func9, Tryd.ntmps9
    go_wp2
    go_ret3
    exact parsed_no HR.out (by repeat (first | exact Below.refl _ _ | assumption | (refine below_drewN ?_ _) | (refine Below.drew ?_) | (refine Below.alloc ?_ (by first | omega | (simp; omega) | simp) _) | (refine Below.setCell ?_ (by first | omega | (simp; omega) | simp) _) | (refine below_trans ?_ (by assumption) (by first | omega | (simp; omega) | simp)))) _ rfl
  · have d1 : decide (65536 < (s.size : Int)) = false := decide_eq_false (by omega)
    have hR : Hid (readL (restL s.data.toList 0) 0 [] = readT s.data.toList) := Lib.hid (by
      have h1 : readT s.data.toList = readL (Lib.split s.data.toList [10]) 0 [] := by unfold readT; rw [if_neg (by omega)]
      have h2 : restL s.data.toList 0 = Lib.split s.data.toList [10] := by unfold restL; rw [if_pos (Nat.zero_le _), List.drop_zero]
      rw [h1, h2])
    generalize readT s.data.toList = RT at *
    go_enter Tryd.func9, Tryd.ntmps9
    go_wp2_with fail
    go_loopw [5, 6, 7, 8] (fun oo nn ff ii wr => ∃ (m f i : Nat) (out : List Ev) (A : Option Addr) (cap : Nat), ii = .int .i64 (i : Nat) ∧ nn = .int .i64 ((m + 1 : Nat) : Int) ∧ ff = .int .i64 (f : Nat) ∧ oo = .slice A out.length cap ∧ i ≤ s.size + 1 ∧ f ≤ i ∧ m ≤ i ∧ (s.size < i → f = s.size + 1) ∧ Hid ((10 : UInt8) ∉ (s.data.toList.drop f).take (i - f)) ∧ Hid (readL (restL s.data.toList f) m out = RT) ∧ Hid (OkL out) ∧ wr.ownsRow w.heap.size 41 5 (.slice A out.length cap) out.length (flatE out) ∧ Below w.heap.size w wr) (fun oo nn ff ii _ => s.size + 1 - (intOf ii).toNat)
    case atStart => exact ⟨0, 0, 0, [], none, 0, rfl, rfl, rfl, rfl, by omega, Nat.le_refl _, Nat.le_refl _, fun h => by omega, Lib.hid (by simp), hR, Lib.hid ⟨by simp, fun e he => by simp at he⟩, World.ownsRow_nil _ _ _ _, (by repeat (first | exact Below.refl _ _ | assumption | (refine below_drewN ?_ _) | (refine Below.drew ?_) | (refine Below.alloc ?_ (by first | omega | (simp; omega) | simp) _) | (refine Below.setCell ?_ (by first | omega | (simp; omega) | simp) _) | (refine below_trans ?_ (by assumption) (by first | omega | (simp; omega) | simp))))⟩
    case round =>
      clear hR
      obtain ⟨m, f, i, out, A, cap, rfl, rfl, rfl, rfl, hi, hfi, hmi, hlast, h10, HR, HOK, own, hb_wr⟩ := hrel
      have hsr := hb_wr.size
      have OW := Lib.hid own
      clear own
      by_cases hil : i ≤ s.size
      · have d2 : decide ((i : Int) ≤ (s.size : Int)) = true := decide_eq_true (by omega)
        have i0 : (0 : Int) ≤ (i : Int) := by omega
        by_cases hch : i < s.size ∧ s.data.toList[i]? ≠ some 10
        · obtain ⟨hlt, hch⟩ := hch
          have i1 : (i : Int) < (s.size : Int) := by omega
          have hget : ∀ h : i < s.data.toList.length, s.data.toList[i] = s[i]'hlt := fun h => by rw [Array.getElem_toList]; rfl
          have hc10 : (s[i]'hlt).toNat ≠ 10 := fun h => hch (by
            rw [List.getElem?_eq_getElem (by omega), hget (by omega)]
            congr 1
            exact UInt8.toNat_inj.1 h)
          have h10' : Hid ((10 : UInt8) ∉ (s.data.toList.drop f).take (i + 1 - f)) := Lib.hid (no10_next hfi h10.out (fun h e => hch (by rw [List.getElem?_eq_getElem h, e])) (by omega))
          have k1 : (((s[i]'hlt).toNat : Int) == 10) = false := by simp; omega
          have k2 : (((s[i]'hlt).toNat : Int) != 10) = true := by simp; omega
          have k3 : ((s[i]'hlt).toNat == 10) = false := by simp; omega
          have k4 : ((s[i]'hlt).toNat != 10) = true := by simp; omega
          clear hch hc10 hget
          go_wp2
          go_roundw
          case rel => exact ⟨m, f, i + 1, out, A, cap, by go_num, rfl, rfl, rfl, by omega, by omega, by omega, fun h => by omega, h10', HR, HOK, OW.out, (by repeat (first | exact Below.refl _ _ | assumption | (refine below_drewN ?_ _) | (refine Below.drew ?_) | (refine Below.alloc ?_ (by first | omega | (simp; omega) | simp) _) | (refine Below.setCell ?_ (by first | omega | (simp; omega) | simp) _) | (refine below_trans ?_ (by assumption) (by first | omega | (simp; omega) | simp))))⟩
          case measure => simp [intOf]; omega
        · have hch2 : i < s.data.toList.length → s.data.toList[i]? = some 10 := fun h => by
            by_cases e : s.data.toList[i]? = some 10
            · exact e
            · exact absurd ⟨by omega, e⟩ hch
          have HRN := Lib.hid (rest_next hfi (by omega) h10.out hch2)
          have HSL := Lib.hid (ext_list s f i)
          have hS : (s.extract f i).size ≤ 65536 := by
            have h := congrArg List.length HSL.out
            rw [Array.length_toList, List.length_take, List.length_drop] at h
            have h2 : (s.extract f i).size = (s.extract f i).data.size := rfl
            omega
          have f0 : (0 : Int) ≤ (f : Int) := by omega
          have f1 : (f : Int) ≤ (i : Int) := by omega
          have HRD := Lib.hid fun (w : World) => xread_agg (w := w) (s.extract f i) hS
          by_cases hlt : i < s.size
          · have i1 : (i : Int) < (s.size : Int) := by omega
            have hc10 : (s[i]'hlt).toNat = 10 := by
              have h := hch2 (by omega)
              rw [List.getElem?_eq_getElem (by omega), Array.getElem_toList] at h
              injection h with h
              have h2 : s[i]'hlt = 10 := h
              rw [h2]
              rfl
            have k1 : (((s[i]'hlt).toNat : Int) == 10) = true := by rw [hc10]; rfl
            have k2 : (((s[i]'hlt).toNat : Int) != 10) = false := by rw [hc10]; rfl
            clear hch hch2 h10
            rw [HRN.out] at HR
            rw [← HSL.out] at HR
            by_cases hem : (s.extract f i).data.toList = []
            · have hemp : (s.extract f i).toList.isEmpty = true := by rw [ByteArray.toList_eq, hem]; rfl
              have HR' : Hid (readL (restL s.data.toList (i + 1)) (m + 1) out = RT) := Lib.hid (by rw [← HR.out, readL, if_pos hem])
              clear HRN HSL HR hem
              go_wp2_with fail
              go_at_call 25
              refine (HRD.out _).mono ?_
              rintro e w2 ⟨ea, eb, ec, ed, en, ok, rfl, hrd, hb_w2⟩
              obtain ⟨hc_w2, hf_w2⟩ := bcell hb_w2; have hs_w2 := hb_w2.size; (try simp only [World.size_alloc, World.size_setCell, World.size_drew, World.heap_drewN] at hs_w2)
              clear hrd
              go_wp2
              go_roundw
              case rel => exact ⟨m + 1, i + 1, i + 1, out, A, cap, by go_num, by go_num, by go_num, rfl, by omega, Nat.le_refl _, by omega, fun h => by omega, Lib.hid (by simp), HR', HOK, owns_laterE OW.out (by repeat (first | exact Below.refl _ _ | assumption | (refine below_drewN ?_ _) | (refine Below.drew ?_) | (refine Below.alloc ?_ (by first | omega | (simp; omega) | simp) _) | (refine Below.setCell ?_ (by first | omega | (simp; omega) | simp) _) | (refine below_trans ?_ (by assumption) (by first | omega | (simp; omega) | simp)))), (by repeat (first | exact Below.refl _ _ | assumption | (refine below_drewN ?_ _) | (refine Below.drew ?_) | (refine Below.alloc ?_ (by first | omega | (simp; omega) | simp) _) | (refine Below.setCell ?_ (by first | omega | (simp; omega) | simp) _) | (refine below_trans ?_ (by assumption) (by first | omega | (simp; omega) | simp))))⟩
              case measure => simp [intOf]; omega
            · have hemp : (s.extract f i).toList.isEmpty = false := by
                rw [ByteArray.toList_eq]
                cases hq : (s.extract f i).data.toList with
                | nil => exact absurd hq hem
                | cons a b => rfl
              have HR1 : Hid ((match read1 (s.extract f i).data.toList with
                | none => ([], m + 1, 2)
                | some e => if 4096 ≤ out.length then ([], m + 1, 6) else readL (restL s.data.toList (i + 1)) (m + 1) (out ++ [e])) = RT) := Lib.hid (by
                rw [← HR.out]
                conv => rhs; rw [readL, if_neg hem]
                rfl)
              clear HRN HSL HR hem
              go_wp2_with fail
              go_at_call 25
              refine (HRD.out _).mono ?_
              rintro e w2 ⟨ea, eb, ec, ed, en, ok, rfl, hrd, hb_w2⟩
              obtain ⟨hc_w2, hf_w2⟩ := bcell hb_w2; have hs_w2 := hb_w2.size; (try simp only [World.size_alloc, World.size_setCell, World.size_drew, World.heap_drewN] at hs_w2)
              rcases ok with _ | _
              · have HR2 : Hid (RT = ([], m + 1, 2)) := Lib.hid (by rw [← HR1.out, hrd]; rfl)
                clear hrd HR1
                go_wp2
                go_ret3
                exact parsed_no HR2.out (by repeat (first | exact Below.refl _ _ | assumption | (refine below_drewN ?_ _) | (refine Below.drew ?_) | (refine Below.alloc ?_ (by first | omega | (simp; omega) | simp) _) | (refine Below.setCell ?_ (by first | omega | (simp; omega) | simp) _) | (refine below_trans ?_ (by assumption) (by first | omega | (simp; omega) | simp)))) _ (by omega)
              · have hok1 : okE ⟨ea, eb, ec, ed, en⟩ = true := read1_ok hrd
                by_cases hfull : 4096 ≤ out.length
                · have hle := HOK.out.1
                  have HR2 : Hid (RT = ([], m + 1, 6)) := Lib.hid (by rw [← HR1.out, hrd]; exact if_pos hfull)
                  have g1 : ((out.length : Int) == 4096) = true := by simp; omega
                  have g2 : (out.length == 4096) = true := by simp; omega
                  clear hrd HR1
                  go_wp2
                  go_ret3
                  exact parsed_no HR2.out (by repeat (first | exact Below.refl _ _ | assumption | (refine below_drewN ?_ _) | (refine Below.drew ?_) | (refine Below.alloc ?_ (by first | omega | (simp; omega) | simp) _) | (refine Below.setCell ?_ (by first | omega | (simp; omega) | simp) _) | (refine below_trans ?_ (by assumption) (by first | omega | (simp; omega) | simp)))) _ (by omega)
                · have HR2 : Hid (readL (restL s.data.toList (i + 1)) (m + 1) (out ++ [⟨ea, eb, ec, ed, en⟩]) = RT) := Lib.hid (by rw [← HR1.out, hrd]; exact (if_neg hfull).symm)
                  have g1 : ((out.length : Int) == 4096) = false := by simp; omega
                  have g2 : (out.length == 4096) = false := by simp; omega
                  have HOK2 : Hid (OkL (out ++ [⟨ea, eb, ec, ed, en⟩])) := Lib.hid ⟨by simp; omega, fun e he => by
                    rw [List.mem_append, List.mem_singleton] at he
                    rcases he with he | rfl
                    · exact HOK.out.2 e he
                    · exact hok1⟩
                  have HFE := Lib.hid (flatE_append out [⟨ea, eb, ec, ed, en⟩])
                  have HLE : Hid ((out ++ [(⟨ea, eb, ec, ed, en⟩ : Ev)]).length = out.length + 1) := Lib.hid (by simp)
                  clear hrd HR1 hok1
                  have OW2 := Lib.hid (owns_laterE OW.out (show Below wr.heap.size wr w2 from (by repeat (first | exact Below.refl _ _ | assumption | (refine below_drewN ?_ _) | (refine Below.drew ?_) | (refine Below.alloc ?_ (by first | omega | (simp; omega) | simp) _) | (refine Below.setCell ?_ (by first | omega | (simp; omega) | simp) _) | (refine below_trans ?_ (by assumption) (by first | omega | (simp; omega) | simp))))))
                  have b2 : Below w.heap.size w w2 := (by repeat (first | exact Below.refl _ _ | assumption | (refine below_drewN ?_ _) | (refine Below.drew ?_) | (refine Below.alloc ?_ (by first | omega | (simp; omega) | simp) _) | (refine Below.setCell ?_ (by first | omega | (simp; omega) | simp) _) | (refine below_trans ?_ (by assumption) (by first | omega | (simp; omega) | simp))))
                  go_wp2_with (at_builtin; refine wpList_appendE ?_ (.tmp 59) (.tmp 61) ?_ w.heap.size A cap out.length (flatE out) ?_ (owns_laterE OW2.out (show Below w2.heap.size w2 _ from (by repeat (first | exact Below.refl _ _ | assumption | (refine below_drewN ?_ _) | (refine Below.drew ?_) | (refine Below.alloc ?_ (by first | omega | (simp; omega) | simp) _) | (refine Below.setCell ?_ (by first | omega | (simp; omega) | simp) _) | (refine below_trans ?_ (by assumption) (by first | omega | (simp; omega) | simp)))))) (some ⟨w2.heap.size + 1, 0, none⟩) 1 1 (flatE [⟨ea, eb, ec, ed, en⟩]) ?_ rfl (fun _ => ⟨w2.heap.size + 1, 0, rfl, fl_liesG _ _ (by simp) (flatE [⟨ea, eb, ec, ed, en⟩]) _⟩) (flatE_one _) (by omega) (by simp; omega) ?_; rfl; rfl; rfl; rfl; intro A7 cap7 w7 hown7 hg7 hb_w7 hat7; have hs7 := hb_w7.size)
                  have HB7 := Lib.hid (show Below w.heap.size w w7 from below_trans (show Below w.heap.size w _ from (by repeat (first | exact Below.refl _ _ | assumption | (refine below_drewN ?_ _) | (refine Below.drew ?_) | (refine Below.alloc ?_ (by first | omega | (simp; omega) | simp) _) | (refine Below.setCell ?_ (by first | omega | (simp; omega) | simp) _) | (refine below_trans ?_ (by assumption) (by first | omega | (simp; omega) | simp))))) hb_w7 (Nat.le_refl _))
                  have HO7 := Lib.hid hown7
                  clear hown7 hb_w7 hg7
                  go_roundw
                  case rel => exact ⟨m + 1, i + 1, i + 1, out ++ [⟨ea, eb, ec, ed, en⟩], A7, cap7, by go_num, by go_num, by go_num, by rw [HLE.out], by omega, Nat.le_refl _, by omega, fun h => by omega, Lib.hid (by simp), HR2, HOK2, by rw [HLE.out, HFE.out]; exact HO7.out, HB7.out⟩
                  case measure => simp [intOf]; omega
          · have d3 : decide ((i : Int) < (s.size : Int)) = false := decide_eq_false (by omega)
            have i2 : (i : Int) ≤ (s.size : Int) := by omega
            clear hch hch2 h10
            rw [HRN.out] at HR
            rw [← HSL.out] at HR
            by_cases hem : (s.extract f i).data.toList = []
            · have hemp : (s.extract f i).toList.isEmpty = true := by rw [ByteArray.toList_eq, hem]; rfl
              have HR' : Hid (readL (restL s.data.toList (i + 1)) (m + 1) out = RT) := Lib.hid (by rw [← HR.out, readL, if_pos hem])
              clear HRN HSL HR hem
              go_wp2_with fail
              go_at_call 25
              refine (HRD.out _).mono ?_
              rintro e w2 ⟨ea, eb, ec, ed, en, ok, rfl, hrd, hb_w2⟩
              obtain ⟨hc_w2, hf_w2⟩ := bcell hb_w2; have hs_w2 := hb_w2.size; (try simp only [World.size_alloc, World.size_setCell, World.size_drew, World.heap_drewN] at hs_w2)
              clear hrd
              go_wp2
              go_roundw
              case rel => exact ⟨m + 1, i + 1, i + 1, out, A, cap, by go_num, by go_num, by go_num, rfl, by omega, Nat.le_refl _, by omega, fun h => by omega, Lib.hid (by simp), HR', HOK, owns_laterE OW.out (by repeat (first | exact Below.refl _ _ | assumption | (refine below_drewN ?_ _) | (refine Below.drew ?_) | (refine Below.alloc ?_ (by first | omega | (simp; omega) | simp) _) | (refine Below.setCell ?_ (by first | omega | (simp; omega) | simp) _) | (refine below_trans ?_ (by assumption) (by first | omega | (simp; omega) | simp)))), (by repeat (first | exact Below.refl _ _ | assumption | (refine below_drewN ?_ _) | (refine Below.drew ?_) | (refine Below.alloc ?_ (by first | omega | (simp; omega) | simp) _) | (refine Below.setCell ?_ (by first | omega | (simp; omega) | simp) _) | (refine below_trans ?_ (by assumption) (by first | omega | (simp; omega) | simp))))⟩
              case measure => simp [intOf]; omega
            · have hemp : (s.extract f i).toList.isEmpty = false := by
                rw [ByteArray.toList_eq]
                cases hq : (s.extract f i).data.toList with
                | nil => exact absurd hq hem
                | cons a b => rfl
              have HR1 : Hid ((match read1 (s.extract f i).data.toList with
                | none => ([], m + 1, 2)
                | some e => if 4096 ≤ out.length then ([], m + 1, 6) else readL (restL s.data.toList (i + 1)) (m + 1) (out ++ [e])) = RT) := Lib.hid (by
                rw [← HR.out]
                conv => rhs; rw [readL, if_neg hem]
                rfl)
              clear HRN HSL HR hem
              go_wp2_with fail
              go_at_call 25
              refine (HRD.out _).mono ?_
              rintro e w2 ⟨ea, eb, ec, ed, en, ok, rfl, hrd, hb_w2⟩
              obtain ⟨hc_w2, hf_w2⟩ := bcell hb_w2; have hs_w2 := hb_w2.size; (try simp only [World.size_alloc, World.size_setCell, World.size_drew, World.heap_drewN] at hs_w2)
              rcases ok with _ | _
              · have HR2 : Hid (RT = ([], m + 1, 2)) := Lib.hid (by rw [← HR1.out, hrd]; rfl)
                clear hrd HR1
                go_wp2
                go_ret3
                exact parsed_no HR2.out (by repeat (first | exact Below.refl _ _ | assumption | (refine below_drewN ?_ _) | (refine Below.drew ?_) | (refine Below.alloc ?_ (by first | omega | (simp; omega) | simp) _) | (refine Below.setCell ?_ (by first | omega | (simp; omega) | simp) _) | (refine below_trans ?_ (by assumption) (by first | omega | (simp; omega) | simp)))) _ (by omega)
              · have hok1 : okE ⟨ea, eb, ec, ed, en⟩ = true := read1_ok hrd
                by_cases hfull : 4096 ≤ out.length
                · have hle := HOK.out.1
                  have HR2 : Hid (RT = ([], m + 1, 6)) := Lib.hid (by rw [← HR1.out, hrd]; exact if_pos hfull)
                  have g1 : ((out.length : Int) == 4096) = true := by simp; omega
                  have g2 : (out.length == 4096) = true := by simp; omega
                  clear hrd HR1
                  go_wp2
                  go_ret3
                  exact parsed_no HR2.out (by repeat (first | exact Below.refl _ _ | assumption | (refine below_drewN ?_ _) | (refine Below.drew ?_) | (refine Below.alloc ?_ (by first | omega | (simp; omega) | simp) _) | (refine Below.setCell ?_ (by first | omega | (simp; omega) | simp) _) | (refine below_trans ?_ (by assumption) (by first | omega | (simp; omega) | simp)))) _ (by omega)
                · have HR2 : Hid (readL (restL s.data.toList (i + 1)) (m + 1) (out ++ [⟨ea, eb, ec, ed, en⟩]) = RT) := Lib.hid (by rw [← HR1.out, hrd]; exact (if_neg hfull).symm)
                  have g1 : ((out.length : Int) == 4096) = false := by simp; omega
                  have g2 : (out.length == 4096) = false := by simp; omega
                  have HOK2 : Hid (OkL (out ++ [⟨ea, eb, ec, ed, en⟩])) := Lib.hid ⟨by simp; omega, fun e he => by
                    rw [List.mem_append, List.mem_singleton] at he
                    rcases he with he | rfl
                    · exact HOK.out.2 e he
                    · exact hok1⟩
                  have HFE := Lib.hid (flatE_append out [⟨ea, eb, ec, ed, en⟩])
                  have HLE : Hid ((out ++ [(⟨ea, eb, ec, ed, en⟩ : Ev)]).length = out.length + 1) := Lib.hid (by simp)
                  clear hrd HR1 hok1
                  have OW2 := Lib.hid (owns_laterE OW.out (show Below wr.heap.size wr w2 from (by repeat (first | exact Below.refl _ _ | assumption | (refine below_drewN ?_ _) | (refine Below.drew ?_) | (refine Below.alloc ?_ (by first | omega | (simp; omega) | simp) _) | (refine Below.setCell ?_ (by first | omega | (simp; omega) | simp) _) | (refine below_trans ?_ (by assumption) (by first | omega | (simp; omega) | simp))))))
                  have b2 : Below w.heap.size w w2 := (by repeat (first | exact Below.refl _ _ | assumption | (refine below_drewN ?_ _) | (refine Below.drew ?_) | (refine Below.alloc ?_ (by first | omega | (simp; omega) | simp) _) | (refine Below.setCell ?_ (by first | omega | (simp; omega) | simp) _) | (refine below_trans ?_ (by assumption) (by first | omega | (simp; omega) | simp))))
                  go_wp2_with (at_builtin; refine wpList_appendE ?_ (.tmp 59) (.tmp 61) ?_ w.heap.size A cap out.length (flatE out) ?_ (owns_laterE OW2.out (show Below w2.heap.size w2 _ from (by repeat (first | exact Below.refl _ _ | assumption | (refine below_drewN ?_ _) | (refine Below.drew ?_) | (refine Below.alloc ?_ (by first | omega | (simp; omega) | simp) _) | (refine Below.setCell ?_ (by first | omega | (simp; omega) | simp) _) | (refine below_trans ?_ (by assumption) (by first | omega | (simp; omega) | simp)))))) (some ⟨w2.heap.size + 1, 0, none⟩) 1 1 (flatE [⟨ea, eb, ec, ed, en⟩]) ?_ rfl (fun _ => ⟨w2.heap.size + 1, 0, rfl, fl_liesG _ _ (by simp) (flatE [⟨ea, eb, ec, ed, en⟩]) _⟩) (flatE_one _) (by omega) (by simp; omega) ?_; rfl; rfl; rfl; rfl; intro A7 cap7 w7 hown7 hg7 hb_w7 hat7; have hs7 := hb_w7.size)
                  have HB7 := Lib.hid (show Below w.heap.size w w7 from below_trans (show Below w.heap.size w _ from (by repeat (first | exact Below.refl _ _ | assumption | (refine below_drewN ?_ _) | (refine Below.drew ?_) | (refine Below.alloc ?_ (by first | omega | (simp; omega) | simp) _) | (refine Below.setCell ?_ (by first | omega | (simp; omega) | simp) _) | (refine below_trans ?_ (by assumption) (by first | omega | (simp; omega) | simp))))) hb_w7 (Nat.le_refl _))
                  have HO7 := Lib.hid hown7
                  clear hown7 hb_w7 hg7
                  go_roundw
                  case rel => exact ⟨m + 1, i + 1, i + 1, out ++ [⟨ea, eb, ec, ed, en⟩], A7, cap7, by go_num, by go_num, by go_num, by rw [HLE.out], by omega, Nat.le_refl _, by omega, fun h => by omega, Lib.hid (by simp), HR2, HOK2, by rw [HLE.out, HFE.out]; exact HO7.out, HB7.out⟩
                  case measure => simp [intOf]; omega
      · have d2 : decide ((i : Int) ≤ (s.size : Int)) = false := decide_eq_false (by omega)
        obtain rfl : f = s.size + 1 := hlast (by omega)
        have HR2 : Hid (RT = (out, 0, 0)) := Lib.hid (by
          rw [← HR.out]
          unfold restL
          rw [if_neg (by omega)]
          rfl)
        go_wp2
        go_ret3
        unfold ParsedR
        rw [HR2.out]
        exact ⟨A, cap, rfl, OW.out, (by repeat (first | exact Below.refl _ _ | assumption | (refine below_drewN ?_ _) | (refine Below.drew ?_) | (refine Below.alloc ?_ (by first | omega | (simp; omega) | simp) _) | (refine Below.setCell ?_ (by first | omega | (simp; omega) | simp) _) | (refine below_trans ?_ (by assumption) (by first | omega | (simp; omega) | simp))))⟩
theorem readT_len (t : List UInt8) : (readT t).1.length ≤ 17592186044416 := by
  rcases readT_ok t with ⟨m, h, hm⟩ | ⟨k, h⟩ | ⟨k, h⟩ | h
  · rw [h]
    have := hm.1
    show m.length ≤ _
    omega
  · rw [h]; exact Nat.zero_le _
  · rw [h]; exact Nat.zero_le _
  · rw [h]; exact Nat.zero_le _
theorem parsed_agg {P : World → Ending → World → Prop} {R : List Ev × Nat × Int} {L : List Ev} {k : Nat} {y : Int} (h1 : R.1 = L) (h2 : R.2.1 = k) (h3 : R.2.2 = y) {w w' : World} {r : Ending} (h : ParsedR w R r w') : ∃ A cap, r = .returned (.tuple #[.slice A L.length cap, .int .i64 (k : Nat), .int .i64 y]) ∧ OwnsE w' w.heap.size (.slice A L.length cap) L ∧ Below w.heap.size w w' := by
  subst h1 h2 h3
  exact h
set_option maxRecDepth 100000 in
set_option maxHeartbeats 8000000 in
theorem scriptReads_walk (s : ByteArray) (hL : Lw w) : Calls Tryd.prog 3 #[.string s] w fun r w' => r = .returned (.bool true) ∧ Below w.heap.size w w' := by
  have HLV := Lib.hid fun (w : World) hL => lives_any (w := w) hL
  have hfl := readT_len s.data.toList
  obtain ⟨L, hL1⟩ : ∃ L, (readT s.data.toList).1 = L := ⟨_, rfl⟩
  obtain ⟨k, hk1⟩ : ∃ k, (readT s.data.toList).2.1 = k := ⟨_, rfl⟩
  obtain ⟨y, hy1⟩ : ∃ y, (readT s.data.toList).2.2 = y := ⟨_, rfl⟩
  rw [hL1] at hfl
  have H1 := Lib.hid fun (w : World) hL => Calls.mono (scriptParse_any (w := w) s hL) (fun e w' h => parsed_agg (P := fun _ _ _ => True) hL1 hk1 hy1 h)
  have H2 := Lib.hid fun (w : World) => Calls.mono (xparse_any (w := w) s) (fun e w' h => parsed_agg (P := fun _ _ _ => True) hL1 hk1 hy1 h)
  have HSF := Lib.hid fun (w : World) (F1 G1 : Option Addr) (fc gc : Nat) hr hq => same_any (w := w) (A := F1) (C := G1) (l := L) (m := L) fc gc hr hq hfl hfl true (by simp)
  have HRF := Lib.hid fun (W : World) (A : Option Addr) (cap B : Nat) (h : OwnsE W B (.slice A L.length cap) L) => ERow.of_owns h
  clear hfl hL1 hk1 hy1
  go_enter Tryd.func3, Tryd.ntmps3
  go_wp2_with fail
  go_at_call 8
  refine (H1.out _ (hL.later (by repeat (first | exact Below.refl _ _ | assumption | (refine below_drewN ?_ _) | (refine Below.drew ?_) | (refine Below.alloc ?_ (by first | omega | (simp; omega) | simp) _) | (refine Below.setCell ?_ (by first | omega | (simp; omega) | simp) _) | (refine below_trans ?_ (by assumption) (by first | omega | (simp; omega) | simp)))))).mono ?_
  rintro e w1 ⟨F1, f1, rfl, o1, hb_w1⟩
  obtain ⟨hc_w1, hf_w1⟩ := bcell hb_w1; have hs_w1 := hb_w1.size; (try simp only [World.size_alloc, World.size_setCell, World.size_drew, World.heap_drewN] at hs_w1)
  have r1 := Lib.hid (HRF.out _ _ _ _ o1)
  clear o1
  go_wp2_with fail
  go_at_call 9
  refine (H2.out _).mono ?_
  rintro e w2 ⟨F2, f2, rfl, o2, hb_w2⟩
  obtain ⟨hc_w2, hf_w2⟩ := bcell hb_w2; have hs_w2 := hb_w2.size; (try simp only [World.size_alloc, World.size_setCell, World.size_drew, World.heap_drewN] at hs_w2)
  have r2 := Lib.hid (HRF.out _ _ _ _ o2)
  clear o2
  go_wp2_with fail
  go_at_call 10
  refine (HLV.out _ (hL.later (by repeat (first | exact Below.refl _ _ | assumption | (refine below_drewN ?_ _) | (refine Below.drew ?_) | (refine Below.alloc ?_ (by first | omega | (simp; omega) | simp) _) | (refine Below.setCell ?_ (by first | omega | (simp; omega) | simp) _) | (refine below_trans ?_ (by assumption) (by first | omega | (simp; omega) | simp)))))).mono ?_
  rintro e w3 ⟨rfl, hb_w3⟩
  obtain ⟨hc_w3, hf_w3⟩ := bcell hb_w3; have hs_w3 := hb_w3.size; (try simp only [World.size_alloc, World.size_setCell, World.size_drew, World.heap_drewN] at hs_w3)
  go_wp2_with fail
  go_at_call 11
  refine (HSF.out _ _ _ _ _ (r1.out.later (by repeat (first | exact Below.refl _ _ | assumption | (refine below_drewN ?_ _) | (refine Below.drew ?_) | (refine Below.alloc ?_ (by first | omega | (simp; omega) | simp) _) | (refine Below.setCell ?_ (by first | omega | (simp; omega) | simp) _) | (refine below_trans ?_ (by assumption) (by first | omega | (simp; omega) | simp))))) (r2.out.later (by repeat (first | exact Below.refl _ _ | assumption | (refine below_drewN ?_ _) | (refine Below.drew ?_) | (refine Below.alloc ?_ (by first | omega | (simp; omega) | simp) _) | (refine Below.setCell ?_ (by first | omega | (simp; omega) | simp) _) | (refine below_trans ?_ (by assumption) (by first | omega | (simp; omega) | simp)))))).mono ?_
  rintro e w4 ⟨rfl, hb_w4⟩
  obtain ⟨hc_w4, hf_w4⟩ := bcell hb_w4; have hs_w4 := hb_w4.size; (try simp only [World.size_alloc, World.size_setCell, World.size_drew, World.heap_drewN] at hs_w4)
  go_wp2
  go_ret
  exact ⟨rfl, (by repeat (first | exact Below.refl _ _ | assumption | (refine below_drewN ?_ _) | (refine Below.drew ?_) | (refine Below.alloc ?_ (by first | omega | (simp; omega) | simp) _) | (refine Below.setCell ?_ (by first | omega | (simp; omega) | simp) _) | (refine below_trans ?_ (by assumption) (by first | omega | (simp; omega) | simp))))⟩
end
end Go.Proofs.YtklbamkafldagaaDoor
