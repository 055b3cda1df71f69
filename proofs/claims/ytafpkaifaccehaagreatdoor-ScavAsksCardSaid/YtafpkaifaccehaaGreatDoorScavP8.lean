/- Parts of the proof. -/
import Derived.Test.YtafpkaifaccehaaGreatDoorScavP7
import Derived.Lib.SliceRun
import Derived.BigFrame
import Derived.Deep.RegionLaw
import Derived.Lib.LazyBuf
import Derived.StillTailTactics
set_option linter.unusedVariables false
set_option linter.unusedSimpArgs false
namespace Go.Proofs.YtafpkaifaccehaaGreatDoor
open Go.RowKit
theorem zero_u64 (w:World):(zeroValue 32).run Tryz.prog w=.ok (.int .u64 0) w:=by kernel_rfl
theorem vals_zeros (n:Nat):List.replicate n (Value.int .u64 0)=vals (List.replicate n 0):=by simp [vals]
section
variable {ws:List Nat} {W:World} {g:Nat}
theorem do_store (i v p q:Nat) (hG:W.heap[g]?=some (.cells (vals ws).toArray 32 (0,0))) (hw:Words ws) (hm:ws.length ≤ 16384) (hi:i < ws.length) (hv:v < W64) (hp:W.cell? ⟨p,0,none⟩=some (.int .u64 (v:Nat))) (hq:W.cell? ⟨q,0,none⟩=some (.int .u64 (i:Nat))) :
  Calls Tryz.prog 232 #[.slice (some ⟨g,0,none⟩) ws.length ws.length,.pointer (some ⟨p,0,none⟩),.pointer (some ⟨q,0,none⟩)] W fun e W'=>e=.returned (.tuple #[])∧Own W' g (some ⟨g,0,none⟩) (ws.set i v)∧Below g W W':=by
 have ho:=Own.of_block hG (Nat.le_refl _) hw
 obtain ⟨g',eg,_,hg,hcg⟩:=ho.at_ (by omega)
 injection eg with eg
 injection eg with eg
 subst eg
 obtain ⟨hc,hf⟩:=hcg i hi
 clear hcg
 have HG:=Lib.hid hG
 clear hG
 go_enter Tryz.func232,Tryz.ntmps232
 go_wp2
 go_end0
 exact ⟨rfl,ho.set_ rfl hi hv,bX⟩
theorem do_clear (a n p q:Nat) (hG:W.heap[g]?=some (.cells (vals ws).toArray 32 (0,0))) (hw:Words ws) (hm:ws.length ≤ 16384) (hi:a + n ≤ ws.length) (hp:W.cell? ⟨p,0,none⟩=some (.int .u64 (a:Nat))) (hq:W.cell? ⟨q,0,none⟩=some (.int .u64 (n:Nat))) :
  Calls Tryz.prog 242 #[.slice (some ⟨g,0,none⟩) ws.length ws.length,.pointer (some ⟨p,0,none⟩),.pointer (some ⟨q,0,none⟩)] W fun e W'=>e=.returned (.tuple #[])∧Own W' g (some ⟨g,0,none⟩) (overTo ws a (fun _=>0) n)∧Below g W W':=by
 have ho:=Own.of_block hG (Nat.le_refl _) hw
 have HG:=Lib.hid hG
 clear hG
 by_cases h0:n=0
 ·subst h0
  have hcl:∀ (x:Option Addr) (c ty:Nat),(Builtin.clear_ #[22] ty #[.slice x 0 c]).run Tryz.prog W=.ok (.tuple #[]) W:=fun x c ty=>by
   cases x <;> simp [Builtin.clear_,run_underlying Tryz.underlying22]
  by_cases hcap:ws.length=a
  ·obtain ⟨L,hL⟩:∃ L,Hid (ws.length=L):=⟨_,rfl⟩
   rw [hL.out] at hcap
   subst hcap
   rw [hL.out] at hm hi
   rw [hL.out]
   go_enter Tryz.func242,Tryz.ntmps242
   go_wp2_with (simp only [hcl])
   go_end0
   exact ⟨rfl,ho,bX⟩
  ·go_enter Tryz.func242,Tryz.ntmps242
   go_wp2_with (simp only [hcl])
   go_end0
   exact ⟨rfl,ho,bX⟩
 ·obtain ⟨g',eg,_,hg,hcg⟩:=ho.at_ (by omega)
  injection eg with eg
  injection eg with eg
  subst eg
  have hcl:∀ c ty,(Builtin.clear_ #[22] ty #[.slice (some ⟨g,a,none⟩) n c]).run Tryz.prog W=.ok (.tuple #[]) (W.setCells g a (List.replicate n (.int .u64 0))):=fun c ty=>
   Lib.run_clear_slice W 22 32 ty (.int .u64 0) Tryz.underlying22 zero_u64 rfl rfl g a n c (by omega) (fun j hj=>by rw [(hcg (a + j) (by omega)).1];rfl) (fun j hj=>(hcg (a + j) (by omega)).2)
  clear hcg
  have hne:ws.length ≠ a:=by omega
  have HF:Hid (W.setCells g a (List.replicate n (.int .u64 0))=W.setCells g a (vals (List.replicate n 0))):=Lib.hid (by rw [vals_zeros])
  go_enter Tryz.func242,Tryz.ntmps242
  go_wp2_with (simp only [hcl])
  go_end0
  refine ⟨rfl,?_,?_⟩
  ·rw [HF.out]
   have:=ho.setCells (a:=a) (vs:=List.replicate n 0) (words_zeros n) (by rw [List.length_replicate];exact hi)
   rwa [splice_over ws _ a (fun _=>0) (by rw [List.length_replicate];exact hi) (fun i hi=>by rw [List.getD_eq_getElem?_getD,List.getElem?_replicate];split <;> rfl),List.length_replicate] at this
  ·exact below_setCells (Nat.le_refl _) _ _ _ (Below.refl _ _)
end
end Go.Proofs.YtafpkaifaccehaaGreatDoor
