/- Parts of the proof. -/
import Derived.Test.YtafpkaifaccehaaGreatDoorScavP3
import Derived.Laws.ResultCell
import Derived.Laws.MakeOwn
import Derived.Laws.CopyOwn
set_option linter.unusedVariables false
set_option linter.unusedSimpArgs false
namespace Go.Proofs.YtafpkaifaccehaaGreatDoor
open Go.RowKit
theorem res_bits {fn:Func} {p u:Tmp} (h:fn.results=#[.cell p 26,.tmp u]) {tmps:Array Value} {w:World} {g:Nat} {v0 v1:Value} (hp:tmps.getD p undef=.pointer (some ⟨g,0,none⟩))
  (h0:w.cell? ⟨g,0,none⟩=some v0) (h1:w.cell? ⟨g,1,none⟩=some v1):(results fn tmps).run Tryz.prog w=.ok (.tuple #[.agg #[v0,v1],tmps.getD u undef]) w:=by
 rw [results_cell_tmp h,hp]
 simp [go_sem,Result.andThen,h0,h1,asAddr]
theorem res_vec {fn:Func} {p u:Tmp} (h:fn.results=#[.cell p 203,.tmp u]) {tmps:Array Value} {w:World} {g:Nat} {v0 v1:Value} (hp:tmps.getD p undef=.pointer (some ⟨g,0,none⟩))
  (h0:w.cell? ⟨g,0,none⟩=some v0) (h1:w.cell? ⟨g,1,none⟩=some v1):(results fn tmps).run Tryz.prog w=.ok (.tuple #[.agg #[v0,v1],tmps.getD u undef]) w:=by
 rw [results_cell_tmp h,hp]
 simp [go_sem,Result.andThen,h0,h1,asAddr]
theorem set_two {w:World} {g:Nat} {u0 u1:Value} (v0 v1:Value) (h0:w.cell? ⟨g,0,none⟩=some u0) (h1:w.cell? ⟨g,1,none⟩=some u1) :
  ((w.setCell ⟨g,0,none⟩ v0).setCell ⟨g,1,none⟩ v1).cell? ⟨g,0,none⟩=some v0∧((w.setCell ⟨g,0,none⟩ v0).setCell ⟨g,1,none⟩ v1).cell? ⟨g,1,none⟩=some v1:=by
 constructor <;> simp [go_sem,h0,h1]
theorem new_two {w:World} {v0 v1:Value} {t:TypeId}:(w.alloc (.cells #[v0,v1] t)).cell? ⟨w.heap.size,0,none⟩=some v0∧(w.alloc (.cells #[v0,v1] t)).cell? ⟨w.heap.size,1,none⟩=some v1:=by
 constructor <;> simp [go_sem]
theorem view_ok {n:Int} {A:Option Addr} {ws:List Nat} {w:World} (cap:Nat) (hr:Row w w.heap.size A ws) (h:Right n ws) :
  Calls Tryz.prog 146 #[.agg #[.int .i64 n,.slice A ws.length cap]] w fun e w'=>e=.returned (.tuple #[.agg #[.int .i64 n,.slice A ws.length cap],.int .i64 0])∧Below w.heap.size w w':=by
 have hR:=Lib.hid h
 clear h
 go_enter Tryz.func146,Tryz.ntmps146
 go_wp2_with (go_at_call 213;refine (check_ok _ (hr.later bX) hR.out).mono ?_;rintro e w1 ⟨rfl,hb_w1⟩;obtain ⟨hc_w1,hf_w1⟩:=bcell hb_w1;have hz_w1_w_0:w.heap.size < w1.heap.size:=lY hb_w1.size;have hz_w1_w_1:w.heap.size + 1 < w1.heap.size:=lY hb_w1.size)
 have k0:w1.cell? ⟨w.heap.size + 1,0,none⟩=_:=(hc_w1 _ _ (by simp)).trans (by simp [go_sem];rfl)
 have k1:w1.cell? ⟨w.heap.size + 1,1,none⟩=_:=(hc_w1 _ _ (by simp)).trans (by simp [go_sem];rfl)
 exact bodyPost_ret (res_vec rfl rfl (set_two _ _ k0 k1).1 (set_two _ _ k0 k1).2) rfl ⟨rfl,bX⟩
theorem view_bad {n:Int} {A:Option Addr} {ws:List Nat} {w:World} (cap:Nat) (hr:Row w w.heap.size A ws) (h:¬ Right n ws) :
  Calls Tryz.prog 146 #[.agg #[.int .i64 n,.slice A ws.length cap]] w fun e w'=>e=.returned (.tuple #[.agg #[.int .i64 0,.slice none 0 0],.int .i64 2])∧Below w.heap.size w w':=by
 have hR:=Lib.hid h
 clear h
 go_enter Tryz.func146,Tryz.ntmps146
 go_wp2_with (go_at_call 213;refine (check_bad _ (hr.later bX) hR.out).mono ?_;rintro e w1 ⟨rfl,hb_w1⟩;obtain ⟨hc_w1,hf_w1⟩:=bcell hb_w1;have hz_w1_w_0:w.heap.size < w1.heap.size:=lY hb_w1.size;have hz_w1_w_1:w.heap.size + 1 < w1.heap.size:=lY hb_w1.size)
 have k0:w1.cell? ⟨w.heap.size + 1,0,none⟩=_:=(hc_w1 _ _ (by simp)).trans (by simp [go_sem];rfl)
 have k1:w1.cell? ⟨w.heap.size + 1,1,none⟩=_:=(hc_w1 _ _ (by simp)).trans (by simp [go_sem];rfl)
 exact bodyPost_ret (res_vec rfl rfl (set_two _ _ k0 k1).1 (set_two _ _ k0 k1).2) rfl ⟨rfl,bX⟩
end Go.Proofs.YtafpkaifaccehaaGreatDoor
