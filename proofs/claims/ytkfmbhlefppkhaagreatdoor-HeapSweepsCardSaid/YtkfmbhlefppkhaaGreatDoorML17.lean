/- Parts of the proof. -/
import Derived.Test.YtkfmbhlefppkhaaGreatDoorML16
import Derived.Deep.RegionHeld3
import Derived.Deep.AppendSrc
import Derived.Lib.AppendZerosOnto
set_option maxRecDepth 100000
set_option linter.unusedVariables false
set_option linter.unusedSimpArgs false
namespace Go.Proofs.YtkfmbhlefppkhaaGreatDoor
open Go.RowKit
section
variable {w:World} {A M:Option Addr} (ca cm:Nat)
theorem xright_unsized (f p z an:Int) (aw:List Nat) (mn:Int) (mw:List Nat) (s:Bool) (h:¬ Sized p z):Calls Tryz.prog 169 #[.agg #[.int .i64 f,.int .i64 p,.int .i64 z,.int .i64 an,.slice A aw.length ca,.int .i64 mn,.slice M mw.length cm,.bool s]] w fun e w'=>e=.returned (.bool false)∧Below w.heap.size w w':=by
 by_cases h0:z=0
 ·subst h0
  by_cases h2:2 ≤ p
  ·have d2:decide (2 ≤ p)=true:=decide_eq_true h2
   have d4:decide (p ≤ 4)=false:=decide_eq_false (fun h4=>h (.inr ⟨rfl,h2,h4⟩))
   clear h
   go_enter Tryz.func169,Tryz.ntmps169
   go_wp2
   go_ret
   exact ⟨rfl,bX⟩
  ·have d2:decide (2 ≤ p)=false:=decide_eq_false h2
   clear h
   go_enter Tryz.func169,Tryz.ntmps169
   go_wp2
   go_ret
   exact ⟨rfl,bX⟩
 ·have e0:(z == 0)=false:=by simpa using h0
  by_cases hz:z=2 ∨ z=4 ∨ z=8 ∨ z=16
  ·have hp:(p == 1)=false:=by simp;intro e;exact h (.inl ⟨hz,e⟩)
   clear h e0 h0
   rcases hz with rfl | rfl | rfl | rfl
   all_goals
    go_enter Tryz.func169,Tryz.ntmps169
    go_wp2
    go_ret
    exact ⟨rfl,bX⟩
  ·have e2:(z == 2)=false:=by simp;omega
   have e4:(z == 4)=false:=by simp;omega
   have e8:(z == 8)=false:=by simp;omega
   have e16:(z == 16)=false:=by simp;omega
   clear hz h h0
   go_enter Tryz.func169,Tryz.ntmps169
   go_wp2
   go_ret
   exact ⟨rfl,bX⟩
theorem xright_unplaced (f p z an:Int) (aw:List Nat) (mn:Int) (mw:List Nat) (s:Bool) (h:Sized p z) (hp:¬ Placed f p):Calls Tryz.prog 169 #[.agg #[.int .i64 f,.int .i64 p,.int .i64 z,.int .i64 an,.slice A aw.length ca,.int .i64 mn,.slice M mw.length cm,.bool s]] w fun e w'=>e=.returned (.bool false)∧Below w.heap.size w w':=by
 unfold Placed at hp
 by_cases hf:f < 0
 ·have d1:decide (f < 0)=true:=decide_eq_true hf
  clear hp
  rcases h with ⟨rfl | rfl | rfl | rfl,rfl⟩ | ⟨rfl,h1,h2⟩
  rotate_right
  ·have d3:decide (2 ≤ p)=true:=decide_eq_true h1
   have d4:decide (p ≤ 4)=true:=decide_eq_true h2
   go_enter Tryz.func169,Tryz.ntmps169
   go_wp2
   go_ret
   exact ⟨rfl,bX⟩
  all_goals
   go_enter Tryz.func169,Tryz.ntmps169
   go_wp2
   go_ret
   exact ⟨rfl,bX⟩
 ·have d1:decide (f < 0)=false:=decide_eq_false hf
  rcases h with ⟨rfl | rfl | rfl | rfl,rfl⟩ | ⟨rfl,h1,h2⟩
  rotate_right
  ·have d3:decide (2 ≤ p)=true:=decide_eq_true h1
   have d4:decide (p ≤ 4)=true:=decide_eq_true h2
   have d5:decide (1024 - p < f)=true:=decide_eq_true (by omega)
   have d6:IntKind.i64.wrap (1024 - p)=1024 - p:=by rw [IntWalk.i64_in _ (by omega)]
   clear hp
   go_enter Tryz.func169,Tryz.ntmps169
   go_wp2
   go_ret
   exact ⟨rfl,bX⟩
  all_goals
   have d5:decide ((1023:Int) < f)=true:=decide_eq_true (by omega)
   clear hp
   go_enter Tryz.func169,Tryz.ntmps169
   go_wp2
   go_ret
   exact ⟨rfl,bX⟩
theorem xright_any (d:Sd) (hA:Row w w.heap.size A d.aw) (hM:Row w w.heap.size M d.mw) (b:Bool) (hb:b=true ↔ Ok1 d) :
  Calls Tryz.prog 169 #[spv d A ca M cm] w fun e w'=>e=.returned (.bool b)∧Below w.heap.size w w':=by
 rw [ok1_iff] at hb
 obtain ⟨f,p,z,an,aw,mn,mw,s⟩:=d
 unfold spv
 simp only at *
 by_cases h1:Sized p z
 ·by_cases h2:Placed f p
  ·have hb':b=true ↔ Rec ⟨f,p,z,an,aw,mn,mw,s⟩:=⟨fun h=>(hb.1 h).2.2,fun h=>hb.2 ⟨h1,h2,h⟩⟩
   rcases h1 with ⟨rfl | rfl | rfl | rfl,rfl⟩ | ⟨rfl,g1,g2⟩
   ·exact xright_zN ca cm 2 8 (.inl ⟨rfl,rfl⟩) f an aw mn mw s h2 hA hM b hb'
   ·exact xright_zN ca cm 4 4 (.inr (.inl ⟨rfl,rfl⟩)) f an aw mn mw s h2 hA hM b hb'
   ·exact xright_zN ca cm 8 2 (.inr (.inr (.inl ⟨rfl,rfl⟩))) f an aw mn mw s h2 hA hM b hb'
   ·exact xright_zN ca cm 16 1 (.inr (.inr (.inr ⟨rfl,rfl⟩))) f an aw mn mw s h2 hA hM b hb'
   ·exact xright_z0 ca cm f p an aw mn mw s g1 g2 h2 hA hM b hb'
  ·obtain rfl:b=false:=by
    cases b
    ·rfl
    ·exact absurd (hb.1 rfl).2.1 h2
   exact xright_unplaced ca cm f p z an aw mn mw s h1 h2
 ·obtain rfl:b=false:=by
   cases b
   ·rfl
   ·exact absurd (hb.1 rfl).1 h1
  exact xright_unsized ca cm f p z an aw mn mw s h1
end
section
variable {w:World} {A:Option Addr} {l:List Sd} (cap:Nat)
set_option maxHeartbeats 8000000 in
theorem xcheckL_any (hr:SRow w w.heap.size A l) (hl:l.length ≤ 17592186044416) (y:Int) (hy:(OkL l∧y=0) ∨ (¬ OkL l∧y=2)) :
  Calls Tryz.prog 162 #[.slice A l.length cap] w fun e w'=>e=.returned (.int .i64 y)∧Below w.heap.size w w':=by
 by_cases hlen:256 < l.length
 ·obtain rfl:y=2:=by
   rcases hy with ⟨h,_⟩ | ⟨_,h⟩
   ·exact absurd h.1 (by omega)
   ·exact h
  have d1:decide (256 < (l.length:Int))=true:=decide_eq_true (by omega)
  clear hy
  go_enter Tryz.func162,Tryz.ntmps162
  go_wp2
  go_ret
  exact ⟨rfl,bX⟩
 ·have d1:decide (256 < (l.length:Int))=false:=decide_eq_false (by omega)
  have hY:=Lib.hid hy
  clear hy
  go_enter Tryz.func162,Tryz.ntmps162
  go_wp2_with fail
  go_loopw [10] (fun ii wr=>∃ k:Nat,ii=.int .i64 (k:Nat)∧k ≤ l.length∧Hid (OkP l k)∧w.heap.size ≤ wr.heap.size∧Below w.heap.size w wr) (fun ii _=>l.length - (intOf ii).toNat)
  case atStart=>exact ⟨0,rfl,Nat.zero_le _,Lib.hid ⟨fun i hi=>by omega,fun i hi=>by omega⟩,lX,bX⟩
  case round=>
   obtain ⟨k,rfl,hk,hA,hsz,hb_wr⟩:=hrel
   have hsr:=hb_wr.size
   by_cases hlt:k < l.length
   ·have hrr:=hr.later hb_wr
    obtain ⟨b,off,hAe,hbb,hc⟩:=hrr.at_ (by omega)
    obtain ⟨Aa,ca,Am,cm,c8,ra,rm⟩:=hc k hlt
    obtain ⟨d,hd⟩:∃ d,Hid (nth l k=d):=⟨_,rfl⟩
    rw [hd.out] at c8 ra rm
    have i1:(k:Int) < (l.length:Int):=by omega
    have i2:(0:Int) ≤ (k:Int):=by omega
    by_cases h1:Ok1 d
    ·have HRT:=Lib.hid fun (w:World) ha hm=>xright_any (w:=w) (A:=Aa) (M:=Am) ca cm d ha hm true ⟨fun _=>h1,fun _=>rfl⟩
     have hpl:=h1.placed
     unfold Placed at hpl
     have H1:=Lib.hid h1
     clear h1
     cases k with
     | zero=>
      have HN:Hid (OkP l 1):=Lib.hid (hA.out.next (by rw [hd.out];exact H1.out) (by rw [hd.out];exact hpl.1))
      obtain ⟨x0,x1,x2,x3,x4,x5,x6,x7⟩:=c8
      clear hc
      subst hAe
      simp only [Nat.zero_mul,Nat.add_zero] at x0 x1 x2 x3 x4 x5 x6 x7
      obtain ⟨f,p,z,an,aw,mn,mw,s⟩:=d
      unfold spv at HRT
      simp only at *
      go_wp2_with fail
      refine wp_region_held_drew (S:=(fun X:World=>X.cell? ⟨wr.heap.size,0,none⟩=some (.int .i64 f)∧X.cell? ⟨wr.heap.size,1,none⟩=some (.int .i64 p)∧X.cell? ⟨wr.heap.size,2,none⟩=some (.int .i64 z)∧X.cell? ⟨wr.heap.size,3,none⟩=some (.int .i64 an)∧X.cell? ⟨wr.heap.size,4,none⟩=some (.slice Aa aw.length ca)∧X.cell? ⟨wr.heap.size,5,none⟩=some (.int .i64 mn)∧X.cell? ⟨wr.heap.size,6,none⟩=some (.slice Am mw.length cm)∧X.cell? ⟨wr.heap.size,7,none⟩=some (.bool s))) (by kernel_rfl) ?_ fun _=>?_
      ·exact kS
      refine tY 0 ?_
      try simp only [Act.put,qZ]
      refine tR 1 fun K hK=>?_
      try simp only [qZ]
      go_simp
      go_at_call 169
      refine (HRT.out _ (ra.later bX) (rm.later bX)).mono ?_
      rintro e w5 ⟨rfl,hb_w5⟩
      have hs_w5:=hb_w5.size
      (try simp only [zZ] at hs_w5)
      have mw50:w5.cell? ⟨wr.heap.size,0,none⟩=some (.int .i64 f):=cX hb_w5
      have mw51:w5.cell? ⟨wr.heap.size,1,none⟩=some (.int .i64 p):=cX hb_w5
      have mw52:w5.cell? ⟨wr.heap.size,2,none⟩=some (.int .i64 z):=cX hb_w5
      have mw53:w5.cell? ⟨wr.heap.size,3,none⟩=some (.int .i64 an):=cX hb_w5
      have mw54:w5.cell? ⟨wr.heap.size,4,none⟩=some (.slice Aa aw.length ca):=cX hb_w5
      have mw55:w5.cell? ⟨wr.heap.size,5,none⟩=some (.int .i64 mn):=cX hb_w5
      have mw56:w5.cell? ⟨wr.heap.size,6,none⟩=some (.slice Am mw.length cm):=cX hb_w5
      have mw57:w5.cell? ⟨wr.heap.size,7,none⟩=some (.bool s):=cX hb_w5
      try go_wp2_with fail
      refine hK.out _ _ ?_ fun _=>?_
      ·exact kS
      clear hK K
      try simp only [Act.put,qZ]
      refine tY 2 ?_
      try simp only [Act.put,qZ]
      refine tY 3 ?_
      try simp only [Act.put,qZ]
      refine tY 4 ?_
      try simp only [Act.put,qZ]
      refine tY 5 ?_
      try simp only [Act.put,qZ]
      refine tY 6 ?_
      try simp only [Act.put,qZ]
      refine tN 7 ?_
      try simp only [Act.put,qZ]
      refine tN 8 ?_
      try simp only [Act.put,qZ]
      refine tN 9 ?_
      try simp only [Act.put,qZ]
      refine tN 10 ?_
      try simp only [Act.put,qZ]
      refine tN 11 ?_
      try simp only [Act.put,qZ]
      refine tN 12 ?_
      try simp only [Act.put,qZ]
      refine tN 13 ?_
      try simp only [Act.put,qZ]
      refine tN 14 ?_
      try simp only [Act.put,qZ]
      refine tN 15 ?_
      try simp only [Act.put,qZ]
      refine tN 16 ?_
      try simp only [Act.put,qZ]
      refine tN 17 ?_
      try simp only [Act.put,qZ]
      refine tN 18 ?_
      try simp only [Act.put,qZ]
      refine tN 19 ?_
      try simp only [Act.put,qZ]
      refine tN 20 ?_
      try simp only [Act.put,qZ]
      refine tN 21 ?_
      try simp only [Act.put,qZ]
      refine tN 22 ?_
      try simp only [Act.put,qZ]
      refine tR 23 fun K hK=>?_
      try simp only [qZ]
      go_simp
      refine hK.out _ _ ?_ fun _=>?_
      ·exact kS
      clear hK K
      try simp only [Act.put,qZ]
      refine tR 24 fun K hK=>?_
      try simp only [qZ]
      go_simp
      refine hK.out _ _ ?_ fun _=>?_
      ·exact kS
      clear hK K
      try simp only [Act.put,qZ]
      refine wpAnyH_done (by kernel_rfl) ?_ _
      go_wp2
      go_roundw
      case rel=>exact ⟨1,by go_num,by omega,HN,lX,bX⟩
      case measure=>simp [intOf];omega
     | succ j=>
      obtain ⟨Ab,cb,Bm,dm,e8,_,_⟩:=hc j (by omega)
      have hpj:=(hA.out.1 j (by omega)).placed
      unfold Placed at hpj
      have hsj:=(hA.out.1 j (by omega)).sized.slots
      obtain ⟨pf,hpf⟩:∃ x,Hid ((nth l j).f=x):=⟨_,rfl⟩
      obtain ⟨pp,hpp⟩:∃ x,Hid ((nth l j).p=x):=⟨_,rfl⟩
      have v0:=e8.c0
      have v1:=e8.c1
      rw [hpf.out] at v0 hpj
      rw [hpp.out] at v1 hpj hsj
      have hw2:IntKind.i64.wrap ((j:Int) + 1 - 1)=(j:Int):=by rw [IntWalk.i64_in _ (by omega)];omega
      have hw4:IntKind.i64.wrap (j:Int)=(j:Int):=by rw [IntWalk.i64_in _ (by omega)]
      have hw6:IntKind.i64.wrap (pf + pp)=pf + pp:=by rw [IntWalk.i64_in _ (by omega)]
      have i3:(j:Int) < (l.length:Int):=by omega
      have i4:(0:Int) ≤ (j:Int):=by omega
      by_cases h2:pf + pp ≤ d.f
      ·have HN:Hid (OkP l (j + 1 + 1)):=Lib.hid (hA.out.next (by rw [hd.out];exact H1.out) (by show (nth l j).f + (nth l j).p ≤ _;rw [hd.out,hpf.out,hpp.out];exact h2))
       have g1:decide (d.f < pf + pp)=false:=decide_eq_false (by omega)
       obtain ⟨x0,x1,x2,x3,x4,x5,x6,x7⟩:=c8
       clear hc e8 h2
       subst hAe
       obtain ⟨f,p,z,an,aw,mn,mw,s⟩:=d
       unfold spv at HRT
       simp only at *
       go_wp2_with fail
       refine wp_region_held_drew (S:=(fun X:World=>X.cell? ⟨wr.heap.size,0,none⟩=some (.int .i64 f)∧X.cell? ⟨wr.heap.size,1,none⟩=some (.int .i64 p)∧X.cell? ⟨wr.heap.size,2,none⟩=some (.int .i64 z)∧X.cell? ⟨wr.heap.size,3,none⟩=some (.int .i64 an)∧X.cell? ⟨wr.heap.size,4,none⟩=some (.slice Aa aw.length ca)∧X.cell? ⟨wr.heap.size,5,none⟩=some (.int .i64 mn)∧X.cell? ⟨wr.heap.size,6,none⟩=some (.slice Am mw.length cm)∧X.cell? ⟨wr.heap.size,7,none⟩=some (.bool s)∧X.cell? ⟨b,off + j * 8,none⟩=some (.int .i64 pf)∧X.cell? ⟨b,off + j * 8 + 1,none⟩=some (.int .i64 pp))) (by kernel_rfl) ?_ fun _=>?_
       ·exact kS
       refine tY 0 ?_
       try simp only [Act.put,qZ]
       refine tR 1 fun K hK=>?_
       try simp only [qZ]
       go_simp
       go_at_call 169
       refine (HRT.out _ (ra.later bX) (rm.later bX)).mono ?_
       rintro e w5 ⟨rfl,hb_w5⟩
       have hs_w5:=hb_w5.size
       (try simp only [zZ] at hs_w5)
       have mw50:w5.cell? ⟨wr.heap.size,0,none⟩=some (.int .i64 f):=cX hb_w5
       have mw51:w5.cell? ⟨wr.heap.size,1,none⟩=some (.int .i64 p):=cX hb_w5
       have mw52:w5.cell? ⟨wr.heap.size,2,none⟩=some (.int .i64 z):=cX hb_w5
       have mw53:w5.cell? ⟨wr.heap.size,3,none⟩=some (.int .i64 an):=cX hb_w5
       have mw54:w5.cell? ⟨wr.heap.size,4,none⟩=some (.slice Aa aw.length ca):=cX hb_w5
       have mw55:w5.cell? ⟨wr.heap.size,5,none⟩=some (.int .i64 mn):=cX hb_w5
       have mw56:w5.cell? ⟨wr.heap.size,6,none⟩=some (.slice Am mw.length cm):=cX hb_w5
       have mw57:w5.cell? ⟨wr.heap.size,7,none⟩=some (.bool s):=cX hb_w5
       have mw58:w5.cell? ⟨b,off + j * 8,none⟩=some (.int .i64 pf):=cX hb_w5
       have mw59:w5.cell? ⟨b,off + j * 8 + 1,none⟩=some (.int .i64 pp):=cX hb_w5
       try go_wp2_with fail
       refine hK.out _ _ ?_ fun _=>?_
       ·exact kS
       clear hK K
       try simp only [Act.put,qZ]
       refine tY 2 ?_
       try simp only [Act.put,qZ]
       refine tY 3 ?_
       try simp only [Act.put,qZ]
       refine tY 4 ?_
       try simp only [Act.put,qZ]
       refine tY 5 ?_
       try simp only [Act.put,qZ]
       refine tY 6 ?_
       try simp only [Act.put,qZ]
       refine tY 7 ?_
       try simp only [Act.put,qZ]
       refine tY 8 ?_
       try simp only [Act.put,qZ]
       refine tY 9 ?_
       try simp only [Act.put,qZ]
       refine tY 10 ?_
       try simp only [Act.put,qZ]
       refine tY 11 ?_
       try simp only [Act.put,qZ]
       refine tY 12 ?_
       try simp only [Act.put,qZ]
       refine tY 13 ?_
       try simp only [Act.put,qZ]
       refine tY 14 ?_
       try simp only [Act.put,qZ]
       refine tY 15 ?_
       try simp only [Act.put,qZ]
       refine tY 16 ?_
       try simp only [Act.put,qZ]
       refine tY 17 ?_
       try simp only [Act.put,qZ]
       refine tY 18 ?_
       try simp only [Act.put,qZ]
       refine tY 19 ?_
       try simp only [Act.put,qZ]
       refine tY 20 ?_
       try simp only [Act.put,qZ]
       refine tY 21 ?_
       try simp only [Act.put,qZ]
       refine tY 22 ?_
       try simp only [Act.put,qZ]
       refine tR 23 fun K hK=>?_
       try simp only [qZ]
       go_simp
       refine hK.out _ _ ?_ fun _=>?_
       ·exact kS
       clear hK K
       try simp only [Act.put,qZ]
       refine tR 24 fun K hK=>?_
       try simp only [qZ]
       go_simp
       refine hK.out _ _ ?_ fun _=>?_
       ·exact kS
       clear hK K
       try simp only [Act.put,qZ]
       refine wpAnyH_done (by kernel_rfl) ?_ _
       go_wp2
       go_roundw
       case rel=>exact ⟨j + 1 + 1,by go_num,by omega,HN,lX,bX⟩
       case measure=>simp [intOf];omega
      ·have g1:decide (d.f < pf + pp)=true:=decide_eq_true (by omega)
       obtain rfl:y=2:=by
        rcases hY.out with ⟨h,_⟩ | ⟨_,h⟩
        ·have:=(h.2.at_ hlt).2
         rw [hd.out] at this
         have e:endAt l (j + 1)=pf + pp:=by show (nth l j).f + (nth l j).p=_;rw [hpf.out,hpp.out]
         rw [e] at this
         exact absurd this h2
        ·exact h
       obtain ⟨x0,x1,x2,x3,x4,x5,x6,x7⟩:=c8
       clear hc e8 h2
       subst hAe
       obtain ⟨f,p,z,an,aw,mn,mw,s⟩:=d
       unfold spv at HRT
       simp only at *
       go_wp2_with fail
       refine wp_region_held_drew (S:=(fun X:World=>X.cell? ⟨wr.heap.size,0,none⟩=some (.int .i64 f)∧X.cell? ⟨wr.heap.size,1,none⟩=some (.int .i64 p)∧X.cell? ⟨wr.heap.size,2,none⟩=some (.int .i64 z)∧X.cell? ⟨wr.heap.size,3,none⟩=some (.int .i64 an)∧X.cell? ⟨wr.heap.size,4,none⟩=some (.slice Aa aw.length ca)∧X.cell? ⟨wr.heap.size,5,none⟩=some (.int .i64 mn)∧X.cell? ⟨wr.heap.size,6,none⟩=some (.slice Am mw.length cm)∧X.cell? ⟨wr.heap.size,7,none⟩=some (.bool s)∧X.cell? ⟨b,off + j * 8,none⟩=some (.int .i64 pf)∧X.cell? ⟨b,off + j * 8 + 1,none⟩=some (.int .i64 pp))) (by kernel_rfl) ?_ fun _=>?_
       ·exact kS
       refine tY 0 ?_
       try simp only [Act.put,qZ]
       refine tR 1 fun K hK=>?_
       try simp only [qZ]
       go_simp
       go_at_call 169
       refine (HRT.out _ (ra.later bX) (rm.later bX)).mono ?_
       rintro e w5 ⟨rfl,hb_w5⟩
       have hs_w5:=hb_w5.size
       (try simp only [zZ] at hs_w5)
       have mw50:w5.cell? ⟨wr.heap.size,0,none⟩=some (.int .i64 f):=cX hb_w5
       have mw51:w5.cell? ⟨wr.heap.size,1,none⟩=some (.int .i64 p):=cX hb_w5
       have mw52:w5.cell? ⟨wr.heap.size,2,none⟩=some (.int .i64 z):=cX hb_w5
       have mw53:w5.cell? ⟨wr.heap.size,3,none⟩=some (.int .i64 an):=cX hb_w5
       have mw54:w5.cell? ⟨wr.heap.size,4,none⟩=some (.slice Aa aw.length ca):=cX hb_w5
       have mw55:w5.cell? ⟨wr.heap.size,5,none⟩=some (.int .i64 mn):=cX hb_w5
       have mw56:w5.cell? ⟨wr.heap.size,6,none⟩=some (.slice Am mw.length cm):=cX hb_w5
       have mw57:w5.cell? ⟨wr.heap.size,7,none⟩=some (.bool s):=cX hb_w5
       have mw58:w5.cell? ⟨b,off + j * 8,none⟩=some (.int .i64 pf):=cX hb_w5
       have mw59:w5.cell? ⟨b,off + j * 8 + 1,none⟩=some (.int .i64 pp):=cX hb_w5
       try go_wp2_with fail
       refine hK.out _ _ ?_ fun _=>?_
       ·exact kS
       clear hK K
       try simp only [Act.put,qZ]
       refine tY 2 ?_
       try simp only [Act.put,qZ]
       refine tY 3 ?_
       try simp only [Act.put,qZ]
       refine tY 4 ?_
       try simp only [Act.put,qZ]
       refine tY 5 ?_
       try simp only [Act.put,qZ]
       refine tY 6 ?_
       try simp only [Act.put,qZ]
       refine tY 7 ?_
       try simp only [Act.put,qZ]
       refine tY 8 ?_
       try simp only [Act.put,qZ]
       refine tY 9 ?_
       try simp only [Act.put,qZ]
       refine tY 10 ?_
       try simp only [Act.put,qZ]
       refine tY 11 ?_
       try simp only [Act.put,qZ]
       refine tY 12 ?_
       try simp only [Act.put,qZ]
       refine tY 13 ?_
       try simp only [Act.put,qZ]
       refine tY 14 ?_
       try simp only [Act.put,qZ]
       refine tY 15 ?_
       try simp only [Act.put,qZ]
       refine tY 16 ?_
       try simp only [Act.put,qZ]
       refine tY 17 ?_
       try simp only [Act.put,qZ]
       refine tY 18 ?_
       try simp only [Act.put,qZ]
       refine tY 19 ?_
       try simp only [Act.put,qZ]
       refine tY 20 ?_
       try simp only [Act.put,qZ]
       refine tY 21 ?_
       try simp only [Act.put,qZ]
       refine tY 22 ?_
       try simp only [Act.put,qZ]
       refine tR 23 fun K hK=>?_
       try simp only [qZ]
       go_simp
       refine hK.out _ _ ?_ fun _=>?_
       ·exact kS
       clear hK K
       try simp only [Act.put,qZ]
       refine tR 24 fun K hK=>?_
       try simp only [qZ]
       go_simp
       refine hK.out _ _ ?_ fun _=>?_
       ·exact kS
       clear hK K
       try simp only [Act.put,qZ]
       refine wpAnyH_done (by kernel_rfl) ?_ _
       go_wp2
       go_ret
       exact ⟨rfl,bX⟩
    ·obtain rfl:y=2:=by
      rcases hY.out with ⟨h,_⟩ | ⟨_,h⟩
      ·have:=(h.2.at_ hlt).1
       rw [hd.out] at this
       exact absurd this h1
      ·exact h
     have HRT:=Lib.hid fun (w:World) ha hm=>xright_any (w:=w) (A:=Aa) (M:=Am) ca cm d ha hm false ⟨fun h=>(by cases h),fun h=>absurd h h1⟩
     obtain ⟨x0,x1,x2,x3,x4,x5,x6,x7⟩:=c8
     clear hc h1
     subst hAe
     obtain ⟨f,p,z,an,aw,mn,mw,s⟩:=d
     unfold spv at HRT
     simp only at *
     go_wp2_with fail
     refine wp_region_held_drew (S:=(fun X:World=>X.cell? ⟨wr.heap.size,0,none⟩=some (.int .i64 f)∧X.cell? ⟨wr.heap.size,1,none⟩=some (.int .i64 p)∧X.cell? ⟨wr.heap.size,2,none⟩=some (.int .i64 z)∧X.cell? ⟨wr.heap.size,3,none⟩=some (.int .i64 an)∧X.cell? ⟨wr.heap.size,4,none⟩=some (.slice Aa aw.length ca)∧X.cell? ⟨wr.heap.size,5,none⟩=some (.int .i64 mn)∧X.cell? ⟨wr.heap.size,6,none⟩=some (.slice Am mw.length cm)∧X.cell? ⟨wr.heap.size,7,none⟩=some (.bool s))) (by kernel_rfl) ?_ fun _=>?_
     ·exact kS
     refine tY 0 ?_
     try simp only [Act.put,qZ]
     refine tR 1 fun K hK=>?_
     try simp only [qZ]
     go_simp
     go_at_call 169
     refine (HRT.out _ (ra.later bX) (rm.later bX)).mono ?_
     rintro e w5 ⟨rfl,hb_w5⟩
     have hs_w5:=hb_w5.size
     (try simp only [zZ] at hs_w5)
     have mw50:w5.cell? ⟨wr.heap.size,0,none⟩=some (.int .i64 f):=cX hb_w5
     have mw51:w5.cell? ⟨wr.heap.size,1,none⟩=some (.int .i64 p):=cX hb_w5
     have mw52:w5.cell? ⟨wr.heap.size,2,none⟩=some (.int .i64 z):=cX hb_w5
     have mw53:w5.cell? ⟨wr.heap.size,3,none⟩=some (.int .i64 an):=cX hb_w5
     have mw54:w5.cell? ⟨wr.heap.size,4,none⟩=some (.slice Aa aw.length ca):=cX hb_w5
     have mw55:w5.cell? ⟨wr.heap.size,5,none⟩=some (.int .i64 mn):=cX hb_w5
     have mw56:w5.cell? ⟨wr.heap.size,6,none⟩=some (.slice Am mw.length cm):=cX hb_w5
     have mw57:w5.cell? ⟨wr.heap.size,7,none⟩=some (.bool s):=cX hb_w5
     try go_wp2_with fail
     refine hK.out _ _ ?_ fun _=>?_
     ·exact kS
     clear hK K
     try simp only [Act.put,qZ]
     refine tY 2 ?_
     try simp only [Act.put,qZ]
     refine tY 3 ?_
     try simp only [Act.put,qZ]
     refine tN 4 ?_
     try simp only [Act.put,qZ]
     refine tN 5 ?_
     try simp only [Act.put,qZ]
     refine tN 6 ?_
     try simp only [Act.put,qZ]
     refine tN 7 ?_
     try simp only [Act.put,qZ]
     refine tN 8 ?_
     try simp only [Act.put,qZ]
     refine tN 9 ?_
     try simp only [Act.put,qZ]
     refine tN 10 ?_
     try simp only [Act.put,qZ]
     refine tN 11 ?_
     try simp only [Act.put,qZ]
     refine tN 12 ?_
     try simp only [Act.put,qZ]
     refine tN 13 ?_
     try simp only [Act.put,qZ]
     refine tN 14 ?_
     try simp only [Act.put,qZ]
     refine tN 15 ?_
     try simp only [Act.put,qZ]
     refine tN 16 ?_
     try simp only [Act.put,qZ]
     refine tN 17 ?_
     try simp only [Act.put,qZ]
     refine tN 18 ?_
     try simp only [Act.put,qZ]
     refine tN 19 ?_
     try simp only [Act.put,qZ]
     refine tN 20 ?_
     try simp only [Act.put,qZ]
     refine tN 21 ?_
     try simp only [Act.put,qZ]
     refine tN 22 ?_
     try simp only [Act.put,qZ]
     refine tN 23 ?_
     try simp only [Act.put,qZ]
     refine tR 24 fun K hK=>?_
     try simp only [qZ]
     go_simp
     refine hK.out _ _ ?_ fun _=>?_
     ·exact kS
     clear hK K
     try simp only [Act.put,qZ]
     refine wpAnyH_done (by kernel_rfl) ?_ _
     go_wp2
     go_ret
     exact ⟨rfl,bX⟩
   ·obtain rfl:k=l.length:=by omega
    obtain rfl:y=0:=by
     rcases hY.out with ⟨_,h⟩ | ⟨h,_⟩
     ·exact h
     ·exact absurd ⟨by omega,hA.out⟩ h
    go_wp2
    go_ret
    exact ⟨rfl,bX⟩
end
section
variable {w:World} {d:Sd} {A M:Option Addr} (ca cm:Nat)
end
theorem ok1_newSd {f p z:Int} (h1:Sized p z) (h2:Placed f p):Ok1 (newSd f p z):=by
 have hs:=h1.slots
 have hr:=right_wordsN (slotsOf z) (by omega) (by omega)
 exact ⟨h1,h2,hr,rfl,hr,rfl,fun i _ h=>h⟩
section
variable {w:World} (f p z:Int)
end
theorem WB.setU {w:World} {B b:Nat} {v:Hv} {h:Hp} (m:WB w B b v h) {U:Option Addr} {cu:Nat} {us:List Nat} (o:Own w B U us) (hU:Apt b U us) :
  WB ((w.setCell ⟨b,1,none⟩ (.int .i64 h.n)).setCell ⟨b,2,none⟩ (.slice U us.length cu)) B b ⟨v.A,v.ca,U,cu,v.V,v.cv⟩ ⟨h.ws,h.n,us,h.l⟩:=by
 obtain ⟨vs,e,h1,h2⟩:=m.s
 exact ⟨(m.box.set1 _).set2 _,m.le,(m.a.oth (p:=⟨b,1,none⟩) m.na _).oth (p:=⟨b,2,none⟩) m.na _,(o.oth (p:=⟨b,1,none⟩) hU _).oth (p:=⟨b,2,none⟩) hU _,⟨vs,e,(h1.oth (p:=⟨b,1,none⟩) h2 _).oth (p:=⟨b,2,none⟩) h2 _,h2⟩,m.na,hU⟩
theorem WB.setV {w:World} {B b:Nat} {v:Hv} {h:Hp} (m:WB w B b v h) {V:Option Addr} {cv:Nat} {l:List Sd} {vs:List Sv} (e:sdsOf vs=l) (hs:OwnsS w B V l.length cv vs) (ha:AptS b V vs) :
  WB (w.setCell ⟨b,3,none⟩ (.slice V l.length cv)) B b ⟨v.A,v.ca,v.U,v.cu,V,cv⟩ ⟨h.ws,h.n,h.us,l⟩:=
 ⟨m.box.set3 _,m.le,m.a.oth (p:=⟨b,3,none⟩) m.na _,m.u.oth (p:=⟨b,3,none⟩) m.nu _,⟨vs,e,hs.oth (p:=⟨b,3,none⟩) ha _,ha⟩,m.na,m.nu⟩
theorem OwnsS.aptS_ge {w:World} {B n cap b:Nat} {A:Option Addr} {vs:List Sv} (h:OwnsS w B A n cap vs) (hb:b < B):AptS b A vs:=
 ⟨fun e=>by
  obtain ⟨_,⟨e1,_⟩ | ⟨q,_,_,e1,e2,_⟩⟩:=id h.row_
  ·injection e1 with e1;subst e1;cases e
  ·injection e1 with e1
   subst e1
   injection e with e
   injection e with e
   omega,fun x hx=>⟨(h.words x hx).1.apt hb,(h.words x hx).2.apt hb⟩⟩
theorem WB.caps {w:World} {B b:Nat} {v:Hv} {h:Hp} (m:WB w B b v h):h.l.length ≤ v.cv∧(v.V=none → v.cv=0):=by
 obtain ⟨vs,e,h1,h2⟩:=m.s
 exact owns_cap h1.row_
def groH (h:Hp) (i c z:Int) (p:Nat):Hp:=⟨h.ws,h.n,fillW h.us i.toNat c.toNat true,insS h.l (newSd i c z) p⟩
theorem OkH.fit {h:Hp} (hk:OkH h) {c i:Int} (hc:1 ≤ c) (hr:RunP h.us c h.n i 0):1 ≤ i∧i + c ≤ h.n∧FitAt h.us i.toNat c.toNat:=by
 rcases hr.fit hc with ⟨_,h1,h2,h3,_⟩ | ⟨h1,_⟩
 ·refine ⟨?_,h2,h3⟩
  have hn:=hk.framed.some_
  have h0:=(hk.owned.used 0 (by omega)).2 (.inl rfl)
  by_cases h5:1 ≤ i
  ·exact h5
  ·have:=h3 0 (by omega) (by omega)
   rw [h0] at this
   cases this
 ·cases h1
theorem OkH.n1024 {h:Hp} (hk:OkH h):h.n ≤ 1024:=by
 have:=hk.framed.words
 have:=hk.framed.long
 omega
theorem grow_noclash {h:Hp} (hk:OkH h) {c i z:Int} (hc:1 ≤ c) (hr:RunP h.us c h.n i 0) {p:Nat} (hp:PosE h.l (newSd i c z) p):¬ Clash h.l (newSd i c z) p:=by
 rintro ⟨h1,h2⟩
 obtain ⟨f1,f2,f3⟩:=hk.fit hc hr
 have h2:(nth h.l p).f < i + c:=h2
 have hin:=hk.owned.in_ p h1
 have hh:i < (nth h.l p).f + (nth h.l p).p:=by
  rcases hp with ⟨_,hq⟩ | hq
  ·omega
  ·rcases hq with ⟨hq,_⟩ | ⟨q,hq,_,hq2,_⟩
   ·omega
   ·have:q=p:=by omega
    subst this
    unfold hitsS at hq2
    have:=of_decide_eq_true hq2
    exact this
 have hsl:=(hk.framed.spans.at_ h1).sized.slots
 obtain ⟨q,hq⟩:∃ q:Nat,(q:Int)=max i (nth h.l p).f:=⟨(max i (nth h.l p).f).toNat,by omega⟩
 have hu:=(hk.owned.used q (by omega)).2 (.inr ⟨p,h1,by omega,by omega⟩)
 have:=f3 q (by omega) (by omega)
 rw [hu] at this
 cases this
def GroE (h:Hp) (c z:Int) (r y:Int) (h':Hp):Prop:=(RunP h.us c h.n 0 3∧r=0∧y=6∧h'=h) ∨ (∃ i,RunP h.us c h.n i 0∧h.l.length=256∧r=0∧y=6∧h'=h) ∨
 (∃ (i:Int) (p:Nat),RunP h.us c h.n i 0∧h.l.length < 256∧PosE h.l (newSd i c z) p∧r=p∧y=0∧h'=groH h i c z p)
set_option maxHeartbeats 4000000 in
theorem zgrow_any {w:World} {B b:Nat} {v:Hv} {h:Hp} (m:WB w B b v h) (hk:OkH h) (c z:Int) (hcz:Sized c z) (r y:Int) (h':Hp) (hE:GroE h c z r y h') :
  Calls Tryz.prog 160 #[.pointer (some ⟨b,0,none⟩),.int .i64 c,.int .i64 z] w fun e w'=>e=.returned (.tuple #[.int .i64 r,.int .i64 y])∧(∃ v',WB w' B b v' h')∧Below B w w':=by
 have hle:=m.le
 have hbl:=m.lt
 have hcs:=hcz.slots
 have hl256:=hk.framed.spans.1
 have HM:=Lib.hid m
 have hrow:=m.u.row
 obtain ⟨b0,b1,b2,b3,f0,f1,f2,f3⟩:=id m.box
 rcases hE with ⟨hr,rfl,rfl,he⟩ | ⟨i,hr,h256,rfl,rfl,he⟩ | ⟨i,p,hr,h256,hp,rfl,rfl,he⟩
 ·subst h'
  have HT:=Lib.hid fun (w:World) (hrr:Row w w.heap.size v.U h.us)=>take_full (w:=w) (n:=h.n) (A:=v.U) (ws:=h.us) v.cu c hrr hk.framed.pages (by omega) (by omega) hr
  unfold FreshT at HT
  clear m hk hr hcz hcs
  go_enter Tryz.func160,Tryz.ntmps160
  go_wp2_with fail
  go_at_call 89
  refine (HT.out _ hrow).mono ?_
  rintro e w1 ⟨U1,c1,rfl,o1,hb_w1⟩
  have hm1:=HM.out.later hb_w1
  have hs1:=hb_w1.size
  go_wp2
  go_ret2
  have ha:Below w1.heap.size w1 (w1.alloc (.cells #[.int .i64 h.n,.slice U1 h.us.length c1] 28)):=Below.alloc (Below.refl _ _) (Nat.le_refl _) _
  exact ⟨rfl,⟨v,hm1.later ha⟩,(hb_w1.mono (by omega)).trans (ha.mono (by omega))⟩
 ·subst h'
  obtain ⟨f1,f2,f3⟩:=hk.fit (by omega) hr
  have hn1024:=hk.n1024
  have hpl:Placed i c:=⟨by omega,by omega⟩
  have HT:=Lib.hid fun (w:World) (hrr:Row w w.heap.size v.U h.us)=>take_fit (w:=w) (n:=h.n) (A:=v.U) (ws:=h.us) v.cu c i hrr hk.framed.pages (by omega) (by omega) hr
  unfold FreshT at HT
  have HK:=Lib.hid fun (w:World)=>sMake_ok (w:=w) i c z hcz hpl
  unfold FreshS spv newSd at HK
  simp only at HK
  have hcap:=m.caps
  have hAE:AddE h.l (newSd i c z) h.l 6:=by
    obtain ⟨q,hq⟩:=PosE.ex h.l (newSd i c z)
    exact .inr (.inr ⟨q,hk.framed.spans,ok1_newSd hcz hpl,hq,.inr (.inl ⟨grow_noclash hk (by omega) hr hq,h256,rfl,rfl⟩)⟩)
  have HAD:=Lib.hid fun (w:World) (A M:Option Addr) (ca cm:Nat) (hv:SRow w w.heap.size v.V h.l) (hA:Row w w.heap.size A (newSd i c z).aw) (hM:Row w w.heap.size M (newSd i c z).mw)=>sadd_any (w:=w) (A:=v.V) (As:=A) (Ms:=M) (l:=h.l) v.cv ca cm hv hcap.1 (by omega) hcap.2 (newSd i c z) hA hM h.l 6 hAE
  unfold FreshL5 spv at HAD
  unfold newSd at HAD
  simp only at HAD
  clear m hk hr hcz hcs f1 f2 f3 hn1024 hpl hcap hAE h256
  go_enter Tryz.func160,Tryz.ntmps160
  go_wp2_with fail
  go_at_call 89
  refine (HT.out _ hrow).mono ?_
  rintro e w1 ⟨U1,c1,rfl,o1,hb_w1⟩
  have hs1:=hb_w1.size
  have ha1:Below w1.heap.size w1 (w1.alloc (.cells #[.int .i64 h.n,.slice U1 (fillW h.us i.toNat c.toNat true).length c1] 28)):=Below.alloc (Below.refl _ _) (Nat.le_refl _) _
  have hm1:=(HM.out.later hb_w1).later ha1
  have hP1:=Two.new w1 (.int .i64 h.n) (.slice U1 (fillW h.us i.toNat c.toNat true).length c1) 28
  have o1a:=o1.later ha1
  have hb1:Below B w (w1.alloc (.cells #[.int .i64 h.n,.slice U1 (fillW h.us i.toNat c.toNat true).length c1] 28)):=(hb_w1.mono (by omega)).trans (ha1.mono (by omega))
  have hsz1:(w1.alloc (.cells #[.int .i64 h.n,.slice U1 (fillW h.us i.toNat c.toNat true).length c1] 28)).heap.size=w1.heap.size + 1:=World.size_alloc _ _
  go_wp2_with fail
  go_at_call 226
  refine (HK.out _).mono ?_
  rintro e w2 ⟨A2,ca2,M2,cm2,rfl,oA2,oM2,hb_w2⟩
  have hs2:=hb_w2.size
  rw [hsz1] at hs2
  have ha2:Below w2.heap.size w2 (w2.alloc (.cells #[.int .i64 i,.int .i64 c,.int .i64 z,.int .i64 (slotsOf z),.slice A2 (wordsN (slotsOf z)).length ca2,.int .i64 (slotsOf z),.slice M2 (wordsN (slotsOf z)).length cm2,.bool true] 99)):=Below.alloc (Below.refl _ _) (Nat.le_refl _) _
  have hm2:=(hm1.later hb_w2).later ha2
  have hP2:=(hP1.below hb_w2 (by omega)).below ha2 (by omega)
  have o2a:=(o1a.later hb_w2).later ha2
  have hb2:Below B w (w2.alloc (.cells #[.int .i64 i,.int .i64 c,.int .i64 z,.int .i64 (slotsOf z),.slice A2 (wordsN (slotsOf z)).length ca2,.int .i64 (slotsOf z),.slice M2 (wordsN (slotsOf z)).length cm2,.bool true] 99)):=(hb1.trans (hb_w2.mono (by omega))).trans (ha2.mono (by omega))
  have hsz2:(w2.alloc (.cells #[.int .i64 i,.int .i64 c,.int .i64 z,.int .i64 (slotsOf z),.slice A2 (wordsN (slotsOf z)).length ca2,.int .i64 (slotsOf z),.slice M2 (wordsN (slotsOf z)).length cm2,.bool true] 99)).heap.size=w2.heap.size + 1:=World.size_alloc _ _
  have rA2:=(oA2.later ha2).row
  have rM2:=(oM2.later ha2).row
  have hV2:=hm2.hm.v
  clear b0 b1 b2 b3 f0 f1 f2 f3 hb_w1 hb_w2 o1 o1a ha1 ha2 hm1 hP1 oA2 oM2
  obtain ⟨b0,b1,b2,b3,f0,f1,f2,f3⟩:=id hm2.box
  go_wp2_with fail
  go_region_with (go_at_call 227;refine (HAD.out _ A2 M2 ca2 cm2 (hV2.later bX) (rA2.later bX) (rM2.later bX)).mono ?_;rintro e w3 ⟨L3,cl3,vs3,rfl,hvs3,oS3,hb_w3⟩)
  all_goals
   have hb_d:Below (w2.alloc (.cells #[.int .i64 i,.int .i64 c,.int .i64 z,.int .i64 (slotsOf z),.slice A2 (wordsN (slotsOf z)).length ca2,.int .i64 (slotsOf z),.slice M2 (wordsN (slotsOf z)).length cm2,.bool true] 99)).heap.size (w2.alloc (.cells #[.int .i64 i,.int .i64 c,.int .i64 z,.int .i64 (slotsOf z),.slice A2 (wordsN (slotsOf z)).length ca2,.int .i64 (slotsOf z),.slice M2 (wordsN (slotsOf z)).length cm2,.bool true] 99)) w3:=bX
   have hm3:=hm2.later hb_d
   have hP3:=hP2.below hb_d (by omega)
   have o3a:=o2a.later hb_d
   have hs3:=hb_d.size
   rw [hsz2] at hs3
   have hb3:Below B w w3:=hb2.trans (hb_d.mono (by omega))
   go_wp2
   go_ret2
   exact ⟨rfl,⟨v,hm3⟩,hb3⟩
 ·subst h'
  have hfd:=insS_find hk.framed.spans hp
  obtain ⟨L,hL⟩:∃ L,Hid (insS h.l (newSd i c z) p=L):=⟨_,Lib.hid rfl⟩
  have HSA:=Lib.hid fun (w:World) (V A U:Option Addr) (na ca nu cu cv:Nat) (hv:SRow w w.heap.size V L)=>zspanat_any (w:=w) (n:=h.n) (A:=A) (U:=U) (V:=V) (l:=L) na ca nu cu cv hv (by rw [← hL.out,insS_len _ _ _ hp.le];omega) i (p:Int) (by rw [← hL.out];exact hfd)
  unfold hpv at HSA
  obtain ⟨f1,f2,f3⟩:=hk.fit (by omega) hr
  have hn1024:=hk.n1024
  have hpl:Placed i c:=⟨by omega,by omega⟩
  have HT:=Lib.hid fun (w:World) (hrr:Row w w.heap.size v.U h.us)=>take_fit (w:=w) (n:=h.n) (A:=v.U) (ws:=h.us) v.cu c i hrr hk.framed.pages (by omega) (by omega) hr
  unfold FreshT at HT
  have HK:=Lib.hid fun (w:World)=>sMake_ok (w:=w) i c z hcz hpl
  unfold FreshS spv newSd at HK
  simp only at HK
  have hcap:=m.caps
  have hAE:AddE h.l (newSd i c z) L 0:=by
   rw [← hL.out]
   exact .inr (.inr ⟨p,hk.framed.spans,ok1_newSd hcz hpl,hp,.inr (.inr ⟨grow_noclash hk (by omega) hr hp,h256,rfl,rfl⟩)⟩)
  have HAD:=Lib.hid fun (w:World) (A M:Option Addr) (ca cm:Nat) (hv:SRow w w.heap.size v.V h.l) (hA:Row w w.heap.size A (newSd i c z).aw) (hM:Row w w.heap.size M (newSd i c z).mw)=>sadd_any (w:=w) (A:=v.V) (As:=A) (Ms:=M) (l:=h.l) v.cv ca cm hv hcap.1 (by omega) hcap.2 (newSd i c z) hA hM L 0 hAE
  unfold FreshL5 spv at HAD
  unfold newSd at HAD
  simp only at HAD
  clear m hk hr hcz hcs f1 f2 f3 hn1024 hpl hcap hAE h256 hp hfd
  go_enter Tryz.func160,Tryz.ntmps160
  go_wp2_with fail
  go_at_call 89
  refine (HT.out _ hrow).mono ?_
  rintro e w1 ⟨U1,c1,rfl,o1,hb_w1⟩
  have hs1:=hb_w1.size
  have ha1:Below w1.heap.size w1 (w1.alloc (.cells #[.int .i64 h.n,.slice U1 (fillW h.us i.toNat c.toNat true).length c1] 28)):=Below.alloc (Below.refl _ _) (Nat.le_refl _) _
  have hm1:=(HM.out.later hb_w1).later ha1
  have hP1:=Two.new w1 (.int .i64 h.n) (.slice U1 (fillW h.us i.toNat c.toNat true).length c1) 28
  have o1a:=o1.later ha1
  have hb1:Below B w (w1.alloc (.cells #[.int .i64 h.n,.slice U1 (fillW h.us i.toNat c.toNat true).length c1] 28)):=(hb_w1.mono (by omega)).trans (ha1.mono (by omega))
  have hsz1:(w1.alloc (.cells #[.int .i64 h.n,.slice U1 (fillW h.us i.toNat c.toNat true).length c1] 28)).heap.size=w1.heap.size + 1:=World.size_alloc _ _
  go_wp2_with fail
  go_at_call 226
  refine (HK.out _).mono ?_
  rintro e w2 ⟨A2,ca2,M2,cm2,rfl,oA2,oM2,hb_w2⟩
  have hs2:=hb_w2.size
  rw [hsz1] at hs2
  have ha2:Below w2.heap.size w2 (w2.alloc (.cells #[.int .i64 i,.int .i64 c,.int .i64 z,.int .i64 (slotsOf z),.slice A2 (wordsN (slotsOf z)).length ca2,.int .i64 (slotsOf z),.slice M2 (wordsN (slotsOf z)).length cm2,.bool true] 99)):=Below.alloc (Below.refl _ _) (Nat.le_refl _) _
  have hm2:=(hm1.later hb_w2).later ha2
  have hP2:=(hP1.below hb_w2 (by omega)).below ha2 (by omega)
  have o2a:=(o1a.later hb_w2).later ha2
  have hb2:Below B w (w2.alloc (.cells #[.int .i64 i,.int .i64 c,.int .i64 z,.int .i64 (slotsOf z),.slice A2 (wordsN (slotsOf z)).length ca2,.int .i64 (slotsOf z),.slice M2 (wordsN (slotsOf z)).length cm2,.bool true] 99)):=(hb1.trans (hb_w2.mono (by omega))).trans (ha2.mono (by omega))
  have hsz2:(w2.alloc (.cells #[.int .i64 i,.int .i64 c,.int .i64 z,.int .i64 (slotsOf z),.slice A2 (wordsN (slotsOf z)).length ca2,.int .i64 (slotsOf z),.slice M2 (wordsN (slotsOf z)).length cm2,.bool true] 99)).heap.size=w2.heap.size + 1:=World.size_alloc _ _
  have rA2:=(oA2.later ha2).row
  have rM2:=(oM2.later ha2).row
  have hV2:=hm2.hm.v
  clear b0 b1 b2 b3 f0 f1 f2 f3 hb_w1 hb_w2 o1 o1a ha1 ha2 hm1 hP1 oA2 oM2
  obtain ⟨b0,b1,b2,b3,f0,f1,f2,f3⟩:=id hm2.box
  go_wp2_with fail
  go_region_with (go_at_call 227;refine (HAD.out _ A2 M2 ca2 cm2 (hV2.later bX) (rA2.later bX) (rM2.later bX)).mono ?_;rintro e w3 ⟨L3,cl3,vs3,rfl,hvs3,oS3,hb_w3⟩)
  all_goals
   have hb_d:Below (w2.alloc (.cells #[.int .i64 i,.int .i64 c,.int .i64 z,.int .i64 (slotsOf z),.slice A2 (wordsN (slotsOf z)).length ca2,.int .i64 (slotsOf z),.slice M2 (wordsN (slotsOf z)).length cm2,.bool true] 99)).heap.size (w2.alloc (.cells #[.int .i64 i,.int .i64 c,.int .i64 z,.int .i64 (slotsOf z),.slice A2 (wordsN (slotsOf z)).length ca2,.int .i64 (slotsOf z),.slice M2 (wordsN (slotsOf z)).length cm2,.bool true] 99)) w3:=bX
   have hm3:=hm2.later hb_d
   have hP3:=hP2.below hb_d (by omega)
   have o3a:=o2a.later hb_d
   have hs3:=hb_d.size
   rw [hsz2] at hs3
   have hb3:Below B w w3:=hb2.trans (hb_d.mono (by omega))
   obtain ⟨p0,p1,pf⟩:=id hP3
   obtain ⟨b0,b1,b2,b3,f0,f1,f2,f3⟩:=id hm3.box
   have hbl3:=hm3.lt
   have hm4:=hm3.setU (cu:=c1) (o3a.mono (B':=B) (by omega)) (o3a.apt (b:=b) (by omega))
   have aS:=oS3.aptS_ge (b:=b) (by first | omega | (simp only [zN,zD,zA];omega))
   have oS4:=(((oS3.mono (B':=B) (by first | omega | (simp only [zN,zD,zA];omega))).oth (p:=⟨b,1,none⟩) aS (.int .i64 h.n)).oth (p:=⟨b,2,none⟩) aS (.slice U1 (fillW h.us i.toNat c.toNat true).length c1))
   have hm5:=hm4.setV hvs3 oS4 aS
   have hb5:Below B w (((w3.setCell ⟨b,1,none⟩ (.int .i64 h.n)).setCell ⟨b,2,none⟩ (.slice U1 (fillW h.us i.toNat c.toNat true).length c1)).setCell ⟨b,3,none⟩ (.slice L3 L.length cl3)):=((hb3.setCell (p:=⟨b,1,none⟩) hle _).setCell (p:=⟨b,2,none⟩) hle _).setCell (p:=⟨b,3,none⟩) hle _
   have HM5:=Lib.hid hm5
   have HB5:=Lib.hid hb5
   clear hm4 hm5 hb5 oS3 oS4 aS
   go_wp2_with fail
   go_at_call 116
   refine (HSA.out _ L3 v.A U1 h.ws.length v.ca (fillW h.us i.toNat c.toNat true).length c1 cl3 HM5.out.hm.v).mono ?_
   rintro e w6 ⟨rfl,hb_w6⟩
   have hm6:=HM5.out.later hb_w6
   have hb6:Below B w w6:=HB5.out.trans (hb_w6.mono (by have:=HM5.out.lt;omega))
   go_wp2
   go_ret2
   refine ⟨rfl,⟨⟨v.A,v.ca,U1,c1,L3,cl3⟩,?_⟩,hb6⟩
   unfold groH
   rw [hL.out]
   exact hm6
theorem ok1_new {i c z:Int} (h1:Sized c z) (h2:Placed i c):Ok1 (newSd i c z):=ok1_newSd h1 h2
theorem new_bits (i c z:Int) (k:Nat):tb (newSd i c z).aw k=false∧tb (curW (newSd i c z)) k=false:=by
 have:tb (wordsN (slotsOf z)) k=false:=by unfold wordsN;exact tb_zeros _ _
 exact ⟨this,this⟩
theorem ins_old (l:List Sd) (s:Sd) (p j:Nat) (hp:p ≤ l.length):nth (insS l s p) (if j < p then j else j + 1)=nth l j:=by
 rw [insS_nth _ _ _ _ hp]
 by_cases h:j < p
 ·rw [if_pos h,if_pos h]
 ·rw [if_neg h,if_neg (by omega),if_neg (by omega)]
  rfl
theorem ins_case (l:List Sd) (s:Sd) (p j:Nat) (hp:p ≤ l.length) (hj:j < (insS l s p).length):(j=p∧nth (insS l s p) j=s) ∨ (j ≠ p∧∃ q,q < l.length∧nth (insS l s p) j=nth l q):=by
 rw [insS_len _ _ _ hp] at hj
 rw [insS_nth _ _ _ _ hp]
 by_cases h:j < p
 ·exact .inr ⟨by omega,j,by omega,by rw [if_pos h]⟩
 ·by_cases e:j=p
  ·exact .inl ⟨e,by rw [if_neg h,if_pos e]⟩
  ·exact .inr ⟨e,j - 1,by omega,by rw [if_neg h,if_neg e]⟩
theorem groH_cur {h:Hp} {i c z:Int} {p:Nat} (hp:p ≤ h.l.length) (a:Nat):Cur (groH h i c z p) a ↔ Cur h a:=by
 have hlen:=insS_len h.l (newSd i c z) p hp
 constructor
 ·rintro ⟨j,k,hj,hk,hc,ha⟩
  have hj:j < (insS h.l (newSd i c z) p).length:=hj
  have hk:k < slN (nth (insS h.l (newSd i c z) p) j):=hk
  have hc:tb (curW (nth (insS h.l (newSd i c z) p) j)) k=true:=hc
  have ha:slA (nth (insS h.l (newSd i c z) p) j) k=a:=ha
  rcases ins_case _ _ _ _ hp hj with ⟨_,e⟩ | ⟨_,q,hq,e⟩
  ·rw [e,(new_bits i c z k).2] at hc
   cases hc
  ·rw [e] at hk hc ha
   exact ⟨q,k,hq,hk,hc,ha⟩
 ·rintro ⟨j,k,hj,hk,hc,ha⟩
  have e:=ins_old h.l (newSd i c z) p j hp
  refine ⟨if j < p then j else j + 1,k,?_,?_,?_,?_⟩
  ·show _ < (insS h.l (newSd i c z) p).length
   rw [hlen];split <;> omega
  ·show k < slN (nth (insS h.l (newSd i c z) p) _)
   rw [e];exact hk
  ·show tb (curW (nth (insS h.l (newSd i c z) p) _)) k=true
   rw [e];exact hc
  ·show slA (nth (insS h.l (newSd i c z) p) _) k=a
   rw [e];exact ha
theorem groH_ok {h:Hp} (hk:OkH h) {i c z:Int} {p:Nat} (hcz:Sized c z) (hr:RunP h.us c h.n i 0) (hp:PosE h.l (newSd i c z) p) (h256:h.l.length < 256):OkH (groH h i c z p):=by
 have hcs:=hcz.slots
 obtain ⟨f1,f2,f3⟩:=hk.fit (by omega) hr
 have hn1024:=hk.n1024
 have hpl:Placed i c:=⟨by omega,by omega⟩
 have okN:=ok1_new hcz hpl
 have hple:=hp.le
 have hL:=insS_ok hk.framed.spans okN hp (grow_noclash hk (by omega) hr hp) h256
 have hlen:=insS_len h.l (newSd i c z) p hple
 have hus:=hk.framed.pages
 have hll:=hus.long
 have htb:∀ q,tb (fillW h.us i.toNat c.toNat true) q=if i.toNat ≤ q∧q < i.toNat + c.toNat then true else tb h.us q:=fun q=>tb_fillW _ _ _ _ _ (by omega)
 have hF:Framed (groH h i c z p):=⟨hk.framed.words,right_fillW hus _ _ _ (by omega),hL,hk.framed.some_,hk.framed.long⟩
 refine ⟨hF,⟨fun j hj=>?_,fun q hq=>?_⟩,⟨fun q hq hz x hx=>?_,fun j hj k hk'=>?_⟩,(linked_iff hF.spans).2 fun j k hj hk' hc=>?_⟩
 ·have hj:j < (insS h.l (newSd i c z) p).length:=hj
  show 1 ≤ (nth (insS h.l (newSd i c z) p) j).f∧(nth (insS h.l (newSd i c z) p) j).f + (nth (insS h.l (newSd i c z) p) j).p ≤ h.n
  rcases ins_case _ _ _ _ hple hj with ⟨_,e⟩ | ⟨_,q,hq,e⟩
  ·rw [e];exact ⟨f1,f2⟩
  ·rw [e];exact hk.owned.in_ q hq
 ·have hq:(q:Int) < h.n:=hq
  show tb (fillW h.us i.toNat c.toNat true) q=true ↔ Has (insS h.l (newSd i c z) p) q
  rw [htb]
  have hnew:nth (insS h.l (newSd i c z) p) p=newSd i c z:=by rw [insS_nth _ _ _ _ hple,if_neg (by omega),if_pos rfl]
  constructor
  ·intro ht
   by_cases hin:i.toNat ≤ q∧q < i.toNat + c.toNat
   ·refine .inr ⟨p,by rw [hlen];omega,?_,?_⟩
    ·rw [hnew];show i ≤ (q:Int);omega
    ·rw [hnew];show (q:Int) < i + c;omega
   ·rw [if_neg hin] at ht
    rcases (hk.owned.used q hq).1 ht with h1 | ⟨j,hj,h1,h2⟩
    ·exact .inl h1
    ·refine .inr ⟨if j < p then j else j + 1,by rw [hlen];split <;> omega,?_,?_⟩
     ·rw [ins_old _ _ _ _ hple];exact h1
     ·rw [ins_old _ _ _ _ hple];exact h2
  ·rintro (h1 | ⟨j,hj,h1,h2⟩)
   ·rw [if_neg (by omega)]
    exact (hk.owned.used q hq).2 (.inl h1)
   ·rcases ins_case _ _ _ _ hple hj with ⟨_,e⟩ | ⟨_,r,hr',e⟩
    ·rw [e] at h1 h2
     have h1:i ≤ (q:Int):=h1
     have h2:(q:Int) < i + c:=h2
     rw [if_pos (by omega)]
    ·rw [e] at h1 h2
     split
     ·rfl
     ·exact (hk.owned.used q hq).2 (.inr ⟨r,hr',h1,h2⟩)
 ·have hq:(q:Int) < h.n:=hq
  have hz:q=0 ∨ tb (fillW h.us i.toNat c.toNat true) q=false:=hz
  refine hk.filled.free q hq ?_ x hx
  rcases hz with hz | hz
  ·exact .inl hz
  ·rw [htb] at hz
   split at hz
   ·cases hz
   ·exact .inr hz
 ·have hj:j < (insS h.l (newSd i c z) p).length:=hj
  have hk':k < slN (nth (insS h.l (newSd i c z) p) j):=hk'
  show SlotOk h.ws (nth (insS h.l (newSd i c z) p) j) k
  rcases ins_case _ _ _ _ hple hj with ⟨_,e⟩ | ⟨_,q,hq,e⟩
  ·rw [e] at hk' ⊢
   have hin:=okN.slA_in hk'
   have hin1:i.toNat * 16 ≤ slA (newSd i c z) k:=hin.1
   have hin2:slA (newSd i c z) k + swd (newSd i c z) ≤ (i + c).toNat * 16:=hin.2
   refine ⟨fun ht=>?_,fun x _ hx=>?_⟩
   ·rw [(new_bits i c z k).1] at ht
    cases ht
   ·obtain ⟨y,hy⟩:∃ y,slA (newSd i c z) k + x=y:=⟨_,rfl⟩
    rw [hy]
    have h1:=f3 (y / 16) (by omega) (by omega)
    have:=hk.filled.free (y / 16) (by omega) (.inr h1) (y % 16) (Nat.mod_lt _ (by omega))
    rwa [show y / 16 * 16 + y % 16=y by omega] at this
  ·rw [e] at hk' ⊢
   exact hk.filled.sound q hq k hk'
 ·have hj:j < (insS h.l (newSd i c z) p).length:=hj
  have hk':k < slN (nth (insS h.l (newSd i c z) p) j):=hk'
  have hc:tb (curW (nth (insS h.l (newSd i c z) p) j)) k=true:=hc
  show RefsAt h.ws (Cur (groH h i c z p)) (nth (insS h.l (newSd i c z) p) j) k
  rcases ins_case _ _ _ _ hple hj with ⟨_,e⟩ | ⟨_,q,hq,e⟩
  ·rw [e,(new_bits i c z k).2] at hc
   cases hc
  ·rw [e] at hk' hc ⊢
   exact ((linked_iff hk.framed.spans).1 hk.linked q k hq hk' hc).mono fun a ha=>(groH_cur hple a).2 ha
theorem szn_sized {n:Int} (h0:0 ≤ n) (h1:n ≤ 48):Sized (pgOf (n + 1)) (szn n):=by
 rcases szn_case h0 h1 with ⟨h,e,f⟩ | ⟨h,h2,e,f⟩ | ⟨h,h2,e,f⟩ | ⟨h,h2,e,f⟩ | ⟨h,e,f⟩
 all_goals
  rw [e,f]
  unfold Sized
  omega
def RooE (h:Hp) (n:Int) (i k y:Int) (h':Hp):Prop:=(0 < szn n∧RoomE h.l (szn n) i k 0∧y=0∧h'=h) ∨ (0 < szn n∧RoomE h.l (szn n) 0 0 3∧GroE h (pgOf (n + 1)) (szn n) i y h'∧k=0) ∨ (szn n=0∧GroE h (pgOf (n + 1)) (szn n) i y h'∧k=0)
theorem RooE.does {h:Hp} (hk:OkH h) {n:Int} (h0:0 ≤ n) (h1:n ≤ 48) {i k y:Int} {h':Hp} (hE:RooE h n i k y h') :
  (y ≠ 0∧y=6∧i=0∧k=0∧h'=h) ∨ (y=0∧OkH h'∧(∀ a,Cur h' a ↔ Cur h a)∧h'.ws=h.ws∧h'.n=h.n∧∃ I K:Nat,i=I∧k=K∧I < h'.l.length∧K < slN (nth h'.l I)∧(nth h'.l I).s=true∧tb (nth h'.l I).aw K=false∧fitsB n (nth h'.l I)=true):=by
 have hs:=szn_sized h0 h1
 have hss:=hs.slots
 have key:∀ {r:Int} {y:Int},GroE h (pgOf (n + 1)) (szn n) r y h' → (y ≠ 0∧y=6∧r=0∧(0:Int)=0∧h'=h) ∨ (y=0∧OkH h'∧(∀ a,Cur h' a ↔ Cur h a)∧h'.ws=h.ws∧h'.n=h.n∧∃ I K:Nat,r=I∧(0:Int)=K∧I < h'.l.length∧K < slN (nth h'.l I)∧(nth h'.l I).s=true∧tb (nth h'.l I).aw K=false∧fitsB n (nth h'.l I)=true):=by
  intro r y hg
  rcases hg with ⟨_,h1,h2,h3⟩ | ⟨_,_,_,h1,h2,h3⟩ | ⟨q,p,hr,h256,hp,h1,h2,h3⟩
  ·exact .inl ⟨by omega,h2,h1,rfl,h3⟩
  ·exact .inl ⟨by omega,h2,h1,rfl,h3⟩
  ·subst h3
   have hple:=hp.le
   have e:nth (insS h.l (newSd q (pgOf (n + 1)) (szn n)) p) p=newSd q (pgOf (n + 1)) (szn n):=by rw [insS_nth _ _ _ _ hple,if_neg (by omega),if_pos rfl]
   refine .inr ⟨h2,groH_ok hk hs hr hp h256,groH_cur hple,rfl,rfl,p,0,h1,rfl,?_,?_,?_,?_,?_⟩
   ·show p < (insS _ _ _).length
    rw [insS_len _ _ _ hple];omega
   ·show 0 < slN (nth (insS _ _ _) p)
    rw [e]
    show 0 < (slotsOf (szn n)).toNat
    omega
   ·show (nth (insS _ _ _) p).s=true
    rw [e];rfl
   ·show tb (nth (insS _ _ _) p).aw 0=false
    rw [e];exact (new_bits _ _ _ _).1
   ·show fitsB n (nth (insS _ _ _) p)=true
    rw [e]
    unfold fitsB newSd
    simp
 rcases hE with ⟨hz,hr,rfl,rfl⟩ | ⟨_,_,hg,rfl⟩ | ⟨_,hg,rfl⟩
 ·right
  rcases hr with ⟨_,_,_,h3⟩ | ⟨_,_,_,_,h3⟩ | ⟨I,r,hok,hI,hN,rfl,hkr,_⟩
  ·cases h3
  ·cases h3
  ·have hIl:=hI.lt
   have hh:hasRoom (szn n) (nth h'.l I)=true:=by
    rcases hI with ⟨h3,_⟩ | ⟨q,h3,h4,h5,_⟩
    ·omega
    ·obtain rfl:I=q:=by omega
     exact h5
   unfold hasRoom at hh
   simp only [Bool.and_eq_true,beq_iff_eq] at hh
   rw [hN.any] at hh
   have hr0:=of_decide_eq_true hh.2.2
   obtain ⟨K,hK⟩:∃ K:Nat,r=K:=⟨r.toNat,by omega⟩
   subst hK
   subst hkr
   have hN':K < slN (nth h'.l I)∧tb (nth h'.l I).aw K=false:=by
    rcases hN with ⟨h3,_⟩ | ⟨q,h3,h4,h5,_⟩
    ·omega
    ·obtain rfl:K=q:=by omega
     exact ⟨h4,by simpa using h5⟩
   refine ⟨rfl,hk,fun a=>Iff.rfl,rfl,rfl,I,K,rfl,rfl,hIl,hN'.1,hh.2.1,hN'.2,?_⟩
   have hsz:=(hok.at_ hIl).sized
   unfold fitsB
   rw [hh.1,beq_self_eq_true,Bool.true_and,beq_iff_eq]
   rw [hh.1] at hsz
   rcases hsz with ⟨_,h3⟩ | ⟨h3,_⟩
   ·rcases hs with ⟨_,h4⟩ | ⟨h4,_⟩
    ·rw [h3,h4]
    ·omega
   ·omega
 ·exact key hg
 ·exact key hg
set_option maxHeartbeats 2000000 in
theorem zroom_any {w:World} {B b:Nat} {v:Hv} {h:Hp} (m:WB w B b v h) (hz:Sizes w) (hk:OkH h) (n:Int) (mm:Nat) (h0:0 ≤ n) (h1:n ≤ 48) (i k y:Int) (h':Hp) (hE:RooE h n i k y h') :
  Calls Tryz.prog 76 #[.pointer (some ⟨b,0,none⟩),.agg #[.int .i64 n,.int .u64 (mm:Nat)]] w fun e w'=>e=.returned (.tuple #[.int .i64 i,.int .i64 k,.int .i64 y])∧(∃ v',WB w' B b v' h')∧Below B w w':=by
 have hle:=m.le
 have hbl:=m.lt
 have hs:=szn_sized h0 h1
 have HM:=Lib.hid m
 have HN:=Lib.hid fun (w:World) hz=>zneeds_any (w:=w) hz n mm h0 h1
 have hl256:=hk.framed.spans.1
 have HRO:=Lib.hid fun (w:World) (hv:SRow w w.heap.size v.V h.l) (x k y:Int) hF=>sroom_any (w:=w) (A:=v.V) (l:=h.l) v.cv hv (by omega) (szn n) x k y hF
 have HGR:=Lib.hid fun (w:World) (m:WB w B b v h) (r y:Int) (h':Hp) hE=>zgrow_any m hk (pgOf (n + 1)) (szn n) hs r y h' hE
 have ha0:Below w.heap.size w (w.alloc (.cells #[.int .i64 n,.int .u64 (mm:Nat)] 34)):=Below.alloc (Below.refl _ _) (Nat.le_refl _) _
 have hm0:=m.later ha0
 have hb0:Below B w (w.alloc (.cells #[.int .i64 n,.int .u64 (mm:Nat)] 34)):=ha0.mono (by omega)
 have hz0:=hz.later ha0
 have hsz0:(w.alloc (.cells #[.int .i64 n,.int .u64 (mm:Nat)] 34)).heap.size=w.heap.size + 1:=World.size_alloc _ _
 clear m hk hs hz ha0
 rcases hE with ⟨hp,hr,rfl,he⟩ | ⟨hp,hr,hg,rfl⟩ | ⟨hp,hg,rfl⟩
 ·subst h'
  have HR2:=Lib.hid fun (w:World) hv=>HRO.out w hv i k 0 hr
  have d1:decide (0 < szn n)=true:=decide_eq_true hp
  clear hr hp HRO
  generalize szn n=z at *
  generalize pgOf (n + 1)=c at *
  go_enter Tryz.func76,Tryz.ntmps76
  go_wp2_with fail
  go_at_call 158
  refine (HN.out _ hz0).mono ?_
  rintro e w1 ⟨rfl,hb_w1⟩
  have hm1:=hm0.later hb_w1
  have hs1:=hb_w1.size
  rw [hsz0] at hs1
  have hb1:Below B w w1:=hb0.trans (hb_w1.mono (by omega))
  obtain ⟨b0,b1,b2,b3,f0,f1,f2,f3⟩:=id hm1.box
  go_wp2_with fail
  go_at_call 159
  refine (HR2.out _ hm1.hm.v).mono ?_
  rintro e w2 ⟨rfl,hb_w2⟩
  have hm2:=hm1.later hb_w2
  have hb2:Below B w w2:=hb1.trans (hb_w2.mono (by omega))
  go_wp2
  go_ret3
  exact ⟨rfl,⟨v,hm2⟩,hb2⟩
 ·have HR2:=Lib.hid fun (w:World) hv=>HRO.out w hv 0 0 3 hr
  have HG2:=Lib.hid fun (w:World) m=>HGR.out w m i y h' hg
  have d1:decide (0 < szn n)=true:=decide_eq_true hp
  clear hr hp HRO HGR hg
  generalize szn n=z at *
  generalize pgOf (n + 1)=c at *
  go_enter Tryz.func76,Tryz.ntmps76
  go_wp2_with fail
  go_at_call 158
  refine (HN.out _ hz0).mono ?_
  rintro e w1 ⟨rfl,hb_w1⟩
  have hm1:=hm0.later hb_w1
  have hs1:=hb_w1.size
  rw [hsz0] at hs1
  have hb1:Below B w w1:=hb0.trans (hb_w1.mono (by omega))
  obtain ⟨b0,b1,b2,b3,f0,f1,f2,f3⟩:=id hm1.box
  go_wp2_with fail
  go_at_call 159
  refine (HR2.out _ hm1.hm.v).mono ?_
  rintro e w2 ⟨rfl,hb_w2⟩
  have hm2:=hm1.later hb_w2
  have hb2:Below B w w2:=hb1.trans (hb_w2.mono (by omega))
  clear b0 b1 b2 b3 f0 f1 f2 f3
  go_wp2_with fail
  go_at_call 160
  refine (HG2.out _ hm2).mono ?_
  rintro e w3 ⟨rfl,hm3,hb_w3⟩
  go_wp2
  go_ret3
  exact ⟨rfl,hm3,hb2.trans hb_w3⟩
 ·have HG2:=Lib.hid fun (w:World) m=>HGR.out w m i y h' hg
  have d1:decide (0 < szn n)=false:=decide_eq_false (by omega)
  clear hp HRO HGR hg
  generalize szn n=z at *
  generalize pgOf (n + 1)=c at *
  go_enter Tryz.func76,Tryz.ntmps76
  go_wp2_with fail
  go_at_call 158
  refine (HN.out _ hz0).mono ?_
  rintro e w1 ⟨rfl,hb_w1⟩
  have hm1:=hm0.later hb_w1
  have hs1:=hb_w1.size
  rw [hsz0] at hs1
  have hb1:Below B w w1:=hb0.trans (hb_w1.mono (by omega))
  go_wp2_with fail
  go_at_call 160
  refine (HG2.out _ hm1).mono ?_
  rintro e w3 ⟨rfl,hm3,hb_w3⟩
  go_wp2
  go_ret3
  exact ⟨rfl,hm3,hb1.trans hb_w3⟩
def FreshHa (w:World) (h:Hp) (a:Nat) (y:Int) (e:Ending) (w':World):Prop:=∃ v,e=.returned (.tuple #[hpV v h,.int .u64 (a:Nat),.int .i64 y])∧OwnsH w' w.heap.size v h∧Below w.heap.size w w'
def NewE (h:Hp) (n:Int) (m:Nat) (bl:Bool) (h':Hp) (a:Nat) (y:Int):Prop:=(¬ OkH h∧h'=hp0∧a=0∧y=2) ∨ (OkH h∧¬ Sh n m∧h'=h∧a=0∧y=2) ∨
 (OkH h∧Sh n m∧(∃ i k,RooE h n i k y h')∧y ≠ 0∧a=0) ∨ (OkH h∧Sh n m∧y=0∧∃ (I K:Nat) (h1:Hp),RooE h n I K 0 h1∧h'=plcH h1 I K n m bl∧a=slA (nth h1.l I) K)
theorem Two.later {w w':World} {g:Nat} {u0 u1:Value} (h:Two w g u0 u1) (hb:Below w.heap.size w w'):Two w' g u0 u1:=h.below hb (World.block_lt_of_cell? _ _ h.c0)
section
variable {w:World} {v:Hv} {h:Hp}
set_option maxHeartbeats 4000000 in
theorem znewH_any (hz:Sizes w) (hM:HM w w.heap.size v h) (hl:h.l.length ≤ 17592186044416) (hw:h.ws.length ≤ 17592186044416) (hnil:v.V=none → v.cv=0) (n:Int) (m:Nat) (hm:m < W64) (bl:Bool) (h':Hp) (a:Nat) (y:Int) (hE:NewE h n m bl h' a y) :
  Calls Tryz.prog 15 #[hpV v h,.agg #[.int .i64 n,.int .u64 (m:Nat)],.bool bl] w fun e w'=>FreshHa w h' a y e w':=by
 rcases hE with ⟨hk,rfl,rfl,rfl⟩ | ⟨hk,hs,he,rfl,rfl⟩ | ⟨hk,hs,⟨i,k,hr⟩,hy,rfl⟩ | ⟨hk,hs,rfl,I,K,h1,hr,he,rfl⟩
 ·have HR:=Lib.hid fun (w:World) z m=>zread_bad (w:=w) (v:=v) (h:=h) z m hl hw hk
  clear hk
  unfold hpV hpv at HR
  unfold FreshHa hpV hpv
  go_enter Tryz.func15,Tryz.ntmps15
  go_wp2_with fail
  go_at_call 73
  refine (HR.out _ (hz.later bX) (hM.later bX)).mono ?_
  rintro e w1 ⟨rfl,hb_w1⟩
  obtain ⟨hc_w1,hf_w1⟩:=bcell hb_w1;have hz_w1_w_0:w.heap.size < w1.heap.size:=lY hb_w1.size;have hz_w1_w_1:w.heap.size + 1 < w1.heap.size:=lY hb_w1.size;have hz_w1_w_2:w.heap.size + 2 < w1.heap.size:=lY hb_w1.size;have hs_w1:=hb_w1.size;(try simp only [zZ] at hs_w1)
  have hR:=(B4.new ((w.alloc (.cells #[.slice v.A h.ws.length v.ca,.int .i64 h.n,.slice v.U h.us.length v.cu,.slice v.V h.l.length v.cv] 31)).alloc (.cells #[.int .i64 n,.int .u64 (m:Nat)] 34)) (.slice none 0 0) (.int .i64 0) (.slice none 0 0) (.slice none 0 0) 31).later hb_w1
  simp only [zA] at hR
  obtain ⟨r0,r1,r2,r3,z0,z1,z2,z3⟩:=id hR
  have hb1:Below w.heap.size w w1:=bX
  clear hc_w1 hf_w1
  go_wp2
  exact bodyPost_ret (res_hp3 rfl rfl (hR.all _ _ _ _)) rfl ⟨hv0,rfl,OwnsH.zero _ _,below_all hb1 (by omega) _ _ _ _⟩
 ·subst h'
  have HR:=Lib.hid fun (w:World) z m=>zread_ok (w:=w) (v:=v) (h:=h) z m hk
  have HTW:=Lib.hid fun (w:World) m=>ztwin_any (w:=w) (v:=v) (h:=h) m hk.framed hnil
  have HPK:=Lib.hid fun (w:World)=>hpack_bad (w:=w) (n:=n) (m:=m) hm hs
  clear hk hs
  unfold hpV hpv at HR HTW
  unfold FreshHa hpV hpv
  go_enter Tryz.func15,Tryz.ntmps15
  go_wp2_with fail
  go_at_call 73
  refine (HR.out _ (hz.later bX) (hM.later bX)).mono ?_
  rintro e w1 ⟨g,L,N,rfl,hg,hRd,hq,hb_w1⟩
  obtain ⟨hc_w1,hf_w1⟩:=bcell hb_w1;have hz_w1_w_0:w.heap.size < w1.heap.size:=lY hb_w1.size;have hz_w1_w_1:w.heap.size + 1 < w1.heap.size:=lY hb_w1.size;have hz_w1_w_2:w.heap.size + 2 < w1.heap.size:=lY hb_w1.size;have hs_w1:=hb_w1.size;(try simp only [zZ] at hs_w1)
  have hR:=(B4.new ((w.alloc (.cells #[.slice v.A h.ws.length v.ca,.int .i64 h.n,.slice v.U h.us.length v.cu,.slice v.V h.l.length v.cv] 31)).alloc (.cells #[.int .i64 n,.int .u64 (m:Nat)] 34)) (.slice none 0 0) (.int .i64 0) (.slice none 0 0) (.slice none 0 0) 31).later hb_w1
  simp only [zA] at hR hg
  have hSp1:=((Two.new (w.alloc (.cells #[.slice v.A h.ws.length v.ca,.int .i64 h.n,.slice v.U h.us.length v.cu,.slice v.V h.l.length v.cv] 31)) (.int .i64 n) (.int .u64 (m:Nat)) 34).old (by simp only [zA];omega) (.cells #[.slice none 0 0,.int .i64 0,.slice none 0 0,.slice none 0 0] 31)).later hb_w1
  rw [World.size_alloc] at hSp1
  have hb1:Below w.heap.size w w1:=bX
  have hs1:=hR.lt
  have hg1:=hRd.rd.lt
  obtain ⟨m0,m1,m2,m3⟩:=id hRd.rd.hb
  clear hc_w1 hf_w1
  go_wp2_with fail
  go_at_call 74
  refine (HTW.out _ (hRd.rd.mem.more (by omega))).mono ?_
  rintro e w2 ⟨v2,rfl,oH,hb_w2⟩
  have hR2:=hR.later hb_w2
  have hRd2:=hRd.later hb_w2
  have hb2:Below w.heap.size w w2:=hb1.trans (hb_w2.mono hb1.size)
  have hs2:=hb_w2.size
  have hW:=WB.new oH hb_w2.size 112
  have hb3:Below w2.heap.size w2 (w2.alloc (.cells #[.slice v2.A h.ws.length v2.ca,.int .i64 h.n,.slice v2.U h.us.length v2.cu,.slice v2.V h.l.length v2.cv] 112)):=Below.alloc (Below.refl _ _) (Nat.le_refl _) _
  have hSp3:=(hSp1.later hb_w2).later hb3
  have hR3:=hR2.later hb3
  have hRd3:=hRd2.later hb3
  have hbb3:Below w.heap.size w (w2.alloc (.cells #[.slice v2.A h.ws.length v2.ca,.int .i64 h.n,.slice v2.U h.us.length v2.cu,.slice v2.V h.l.length v2.cv] 112)):=hb2.alloc hb2.size _
  have hs3:(w2.alloc (.cells #[.slice v2.A h.ws.length v2.ca,.int .i64 h.n,.slice v2.U h.us.length v2.cu,.slice v2.V h.l.length v2.cv] 112)).heap.size=w2.heap.size + 1:=World.size_alloc _ _
  clear hb_w1 hb_w2 m0 m1 m2 m3 hR hRd oH hR2 hRd2 hb1 hb2 hb3 hSp1
  obtain ⟨s0,s1,sf⟩:=id hSp3
  go_wp2_with fail
  go_at_call 75
  refine (HPK.out _).mono ?_
  rintro e w4 ⟨rfl,hb_w4⟩
  have hW4:=hW.later hb_w4
  have hR4:=hR3.later hb_w4
  have hSp4:=hSp3.later hb_w4
  have hs4:=hb_w4.size
  rw [hs3] at hs4
  have hb4:Below w.heap.size w w4:=hbb3.trans (hb_w4.mono hbb3.size)
  clear s0 s1 sf
  obtain ⟨c0,c1,c2,c3,f0,f1,f2,f3⟩:=id hW4.box
  obtain ⟨r0,r1,r2,r3,z0,z1,z2,z3⟩:=id hR4
  go_wp2
  exact bodyPost_ret (res_hp3 rfl rfl (hR4.all _ _ _ _)) rfl ⟨v2,rfl,(hW4.owns.all (by omega) _ _ _ _).mono (by omega),below_all hb4 (by omega) _ _ _ _⟩
 ·have HR:=Lib.hid fun (w:World) z m=>zread_ok (w:=w) (v:=v) (h:=h) z m hk
  have HTW:=Lib.hid fun (w:World) m=>ztwin_any (w:=w) (v:=v) (h:=h) m hk.framed hnil
  have HPK:=Lib.hid fun (w:World)=>hpack_ok (w:=w) (n:=n) (m:=m) hs
  have HRO:=Lib.hid fun (w:World) (B b:Nat) (v:Hv) (mm:WB w B b v h) (hz:Sizes w)=>zroom_any mm hz hk n m hs.1 hs.2.1 i k y h' hr
  have d0:(y != 0)=true:=by simpa using hy
  clear hk hs hr hy
  unfold hpV hpv at HR HTW
  unfold FreshHa hpV hpv
  go_enter Tryz.func15,Tryz.ntmps15
  go_wp2_with fail
  go_at_call 73
  refine (HR.out _ (hz.later bX) (hM.later bX)).mono ?_
  rintro e w1 ⟨g,L,N,rfl,hg,hRd,hq,hb_w1⟩
  obtain ⟨hc_w1,hf_w1⟩:=bcell hb_w1;have hz_w1_w_0:w.heap.size < w1.heap.size:=lY hb_w1.size;have hz_w1_w_1:w.heap.size + 1 < w1.heap.size:=lY hb_w1.size;have hz_w1_w_2:w.heap.size + 2 < w1.heap.size:=lY hb_w1.size;have hs_w1:=hb_w1.size;(try simp only [zZ] at hs_w1)
  have hR:=(B4.new ((w.alloc (.cells #[.slice v.A h.ws.length v.ca,.int .i64 h.n,.slice v.U h.us.length v.cu,.slice v.V h.l.length v.cv] 31)).alloc (.cells #[.int .i64 n,.int .u64 (m:Nat)] 34)) (.slice none 0 0) (.int .i64 0) (.slice none 0 0) (.slice none 0 0) 31).later hb_w1
  simp only [zA] at hR hg
  have hSp1:=((Two.new (w.alloc (.cells #[.slice v.A h.ws.length v.ca,.int .i64 h.n,.slice v.U h.us.length v.cu,.slice v.V h.l.length v.cv] 31)) (.int .i64 n) (.int .u64 (m:Nat)) 34).old (by simp only [zA];omega) (.cells #[.slice none 0 0,.int .i64 0,.slice none 0 0,.slice none 0 0] 31)).later hb_w1
  rw [World.size_alloc] at hSp1
  have hb1:Below w.heap.size w w1:=bX
  have hs1:=hR.lt
  have hg1:=hRd.rd.lt
  obtain ⟨m0,m1,m2,m3⟩:=id hRd.rd.hb
  clear hc_w1 hf_w1
  go_wp2_with fail
  go_at_call 74
  refine (HTW.out _ (hRd.rd.mem.more (by omega))).mono ?_
  rintro e w2 ⟨v2,rfl,oH,hb_w2⟩
  have hR2:=hR.later hb_w2
  have hRd2:=hRd.later hb_w2
  have hb2:Below w.heap.size w w2:=hb1.trans (hb_w2.mono hb1.size)
  have hs2:=hb_w2.size
  have hW:=WB.new oH hb_w2.size 112
  have hb3:Below w2.heap.size w2 (w2.alloc (.cells #[.slice v2.A h.ws.length v2.ca,.int .i64 h.n,.slice v2.U h.us.length v2.cu,.slice v2.V h.l.length v2.cv] 112)):=Below.alloc (Below.refl _ _) (Nat.le_refl _) _
  have hSp3:=(hSp1.later hb_w2).later hb3
  have hR3:=hR2.later hb3
  have hRd3:=hRd2.later hb3
  have hbb3:Below w.heap.size w (w2.alloc (.cells #[.slice v2.A h.ws.length v2.ca,.int .i64 h.n,.slice v2.U h.us.length v2.cu,.slice v2.V h.l.length v2.cv] 112)):=hb2.alloc hb2.size _
  have hs3:(w2.alloc (.cells #[.slice v2.A h.ws.length v2.ca,.int .i64 h.n,.slice v2.U h.us.length v2.cu,.slice v2.V h.l.length v2.cv] 112)).heap.size=w2.heap.size + 1:=World.size_alloc _ _
  clear hb_w1 hb_w2 m0 m1 m2 m3 hR hRd oH hR2 hRd2 hb1 hb2 hb3 hSp1
  obtain ⟨s0,s1,sf⟩:=id hSp3
  go_wp2_with fail
  go_at_call 75
  refine (HPK.out _).mono ?_
  rintro e w4 ⟨rfl,hb_w4⟩
  have hW4:=hW.later hb_w4
  have hR4:=hR3.later hb_w4
  have hSp4:=hSp3.later hb_w4
  have hs4:=hb_w4.size
  rw [hs3] at hs4
  have hb4:Below w.heap.size w w4:=hbb3.trans (hb_w4.mono hbb3.size)
  clear s0 s1 sf
  obtain ⟨s0,s1,sf⟩:=id hSp4
  go_wp2_with fail
  go_at_call 76
  refine (HRO.out _ _ _ _ hW4 (hz.later hb4)).mono ?_
  rintro e w5 ⟨rfl,⟨v5,hW5⟩,hb_w5⟩
  have hR5:=hR4.below hb_w5 (by omega)
  have hs5:=hb_w5.size
  have hb5:Below w.heap.size w w5:=hb4.trans (hb_w5.mono (by omega))
  clear s0 s1 sf
  obtain ⟨c0,c1,c2,c3,f0,f1,f2,f3⟩:=id hW5.box
  obtain ⟨r0,r1,r2,r3,z0,z1,z2,z3⟩:=id hR5
  go_wp2
  exact bodyPost_ret (res_hp3 rfl rfl (hR5.all _ _ _ _)) rfl ⟨v5,rfl,(hW5.owns.all (by omega) _ _ _ _).mono (by omega),below_all hb5 (by omega) _ _ _ _⟩
 ·subst h'
  have HR:=Lib.hid fun (w:World) z m=>zread_ok (w:=w) (v:=v) (h:=h) z m hk
  have HTW:=Lib.hid fun (w:World) m=>ztwin_any (w:=w) (v:=v) (h:=h) m hk.framed hnil
  have HPK:=Lib.hid fun (w:World)=>hpack_ok (w:=w) (n:=n) (m:=m) hs
  have HRO:=Lib.hid fun (w:World) (B b:Nat) (v:Hv) (mm:WB w B b v h) (hz:Sizes w)=>zroom_any mm hz hk n m hs.1 hs.2.1 I K 0 h1 hr
  obtain ⟨hok1,hws,hI,hK,hfit⟩:OkH h1∧h1.ws=h.ws∧I < h1.l.length∧K < slN (nth h1.l I)∧True:=by
   rcases hr.does hk hs.1 hs.2.1 with ⟨hy,_⟩ | ⟨_,h2,_,h3,_,I',K',e1,e2,h4,h5,_⟩
   ·exact absurd rfl hy
   ·obtain rfl:I=I':=by omega
    obtain rfl:K=K':=by omega
    exact ⟨h2,h3,h4,h5,trivial⟩
  have hsw:=hok1.slotW hI hK
  have HPL:Hid (∀ (w:World) (B b:Nat) (v:Hv),WB w B b v h1 → Calls Tryz.prog 77 #[.pointer (some ⟨b,0,none⟩),.int .i64 (I:Nat),.int .i64 (K:Nat),.int .u64 (pk n m:Nat),.bool bl] w fun e w'=>e=.returned (.int .u64 ((slA (nth h1.l I) K:Nat):Int))∧(∃ v',WB w' B b v' (plcH h1 I K n m bl))∧Below B w w'):=Lib.hid fun (w:World) (B b:Nat) (v:Hv) (mm:WB w B b v h1)=>zplace_any mm hok1.framed.spans hok1.framed.words I K hI hK (by omega) (pk n m) (pk_lt n m hs) bl
  clear hk hs hr hok1 hws hI hK hfit hsw
  unfold hpV hpv at HR HTW
  unfold FreshHa hpV hpv
  go_enter Tryz.func15,Tryz.ntmps15
  go_wp2_with fail
  go_at_call 73
  refine (HR.out _ (hz.later bX) (hM.later bX)).mono ?_
  rintro e w1 ⟨g,L,N,rfl,hg,hRd,hq,hb_w1⟩
  obtain ⟨hc_w1,hf_w1⟩:=bcell hb_w1;have hz_w1_w_0:w.heap.size < w1.heap.size:=lY hb_w1.size;have hz_w1_w_1:w.heap.size + 1 < w1.heap.size:=lY hb_w1.size;have hz_w1_w_2:w.heap.size + 2 < w1.heap.size:=lY hb_w1.size;have hs_w1:=hb_w1.size;(try simp only [zZ] at hs_w1)
  have hR:=(B4.new ((w.alloc (.cells #[.slice v.A h.ws.length v.ca,.int .i64 h.n,.slice v.U h.us.length v.cu,.slice v.V h.l.length v.cv] 31)).alloc (.cells #[.int .i64 n,.int .u64 (m:Nat)] 34)) (.slice none 0 0) (.int .i64 0) (.slice none 0 0) (.slice none 0 0) 31).later hb_w1
  simp only [zA] at hR hg
  have hSp1:=((Two.new (w.alloc (.cells #[.slice v.A h.ws.length v.ca,.int .i64 h.n,.slice v.U h.us.length v.cu,.slice v.V h.l.length v.cv] 31)) (.int .i64 n) (.int .u64 (m:Nat)) 34).old (by simp only [zA];omega) (.cells #[.slice none 0 0,.int .i64 0,.slice none 0 0,.slice none 0 0] 31)).later hb_w1
  rw [World.size_alloc] at hSp1
  have hb1:Below w.heap.size w w1:=bX
  have hs1:=hR.lt
  have hg1:=hRd.rd.lt
  obtain ⟨m0,m1,m2,m3⟩:=id hRd.rd.hb
  clear hc_w1 hf_w1
  go_wp2_with fail
  go_at_call 74
  refine (HTW.out _ (hRd.rd.mem.more (by omega))).mono ?_
  rintro e w2 ⟨v2,rfl,oH,hb_w2⟩
  have hR2:=hR.later hb_w2
  have hRd2:=hRd.later hb_w2
  have hb2:Below w.heap.size w w2:=hb1.trans (hb_w2.mono hb1.size)
  have hs2:=hb_w2.size
  have hW:=WB.new oH hb_w2.size 112
  have hb3:Below w2.heap.size w2 (w2.alloc (.cells #[.slice v2.A h.ws.length v2.ca,.int .i64 h.n,.slice v2.U h.us.length v2.cu,.slice v2.V h.l.length v2.cv] 112)):=Below.alloc (Below.refl _ _) (Nat.le_refl _) _
  have hSp3:=(hSp1.later hb_w2).later hb3
  have hR3:=hR2.later hb3
  have hRd3:=hRd2.later hb3
  have hbb3:Below w.heap.size w (w2.alloc (.cells #[.slice v2.A h.ws.length v2.ca,.int .i64 h.n,.slice v2.U h.us.length v2.cu,.slice v2.V h.l.length v2.cv] 112)):=hb2.alloc hb2.size _
  have hs3:(w2.alloc (.cells #[.slice v2.A h.ws.length v2.ca,.int .i64 h.n,.slice v2.U h.us.length v2.cu,.slice v2.V h.l.length v2.cv] 112)).heap.size=w2.heap.size + 1:=World.size_alloc _ _
  clear hb_w1 hb_w2 m0 m1 m2 m3 hR hRd oH hR2 hRd2 hb1 hb2 hb3 hSp1
  obtain ⟨s0,s1,sf⟩:=id hSp3
  go_wp2_with fail
  go_at_call 75
  refine (HPK.out _).mono ?_
  rintro e w4 ⟨rfl,hb_w4⟩
  have hW4:=hW.later hb_w4
  have hR4:=hR3.later hb_w4
  have hSp4:=hSp3.later hb_w4
  have hs4:=hb_w4.size
  rw [hs3] at hs4
  have hb4:Below w.heap.size w w4:=hbb3.trans (hb_w4.mono hbb3.size)
  clear s0 s1 sf
  obtain ⟨s0,s1,sf⟩:=id hSp4
  go_wp2_with fail
  go_at_call 76
  refine (HRO.out _ _ _ _ hW4 (hz.later hb4)).mono ?_
  rintro e w5 ⟨rfl,⟨v5,hW5⟩,hb_w5⟩
  have hR5:=hR4.below hb_w5 (by omega)
  have hs5:=hb_w5.size
  have hb5:Below w.heap.size w w5:=hb4.trans (hb_w5.mono (by omega))
  clear s0 s1 sf
  clear hR4 hW4 hSp4 hSp3
  go_wp2_with fail
  go_at_call 77
  refine (HPL.out _ _ _ _ hW5).mono ?_
  rintro e w6 ⟨rfl,⟨v6,hW6⟩,hb_w6⟩
  have hR6:=hR5.below hb_w6 (by omega)
  have hs6:=hb_w6.size
  have hb6:Below w.heap.size w w6:=hb5.trans (hb_w6.mono (by omega))
  obtain ⟨c0,c1,c2,c3,f0,f1,f2,f3⟩:=id hW6.box
  obtain ⟨r0,r1,r2,r3,z0,z1,z2,z3⟩:=id hR6
  go_wp2
  exact bodyPost_ret (res_hp3 rfl rfl (hR6.all _ _ _ _)) rfl ⟨v6,rfl,(hW6.owns.all (by omega) _ _ _ _).mono (by omega),below_all hb6 (by omega) _ _ _ _⟩
end
def unmA (d:Sd):Nat → List Nat
 | 0=>[]
 | k + 1=>unmA d k ++ if tb d.aw k && !tb d.mw k then [slA d k] else []
theorem unmA_len (d:Sd) (k:Nat):(unmA d k).length ≤ k:=by
 induction k with
 | zero=>exact Nat.le_refl _
 | succ k ih=>
  rw [unmA,List.length_append]
  split <;> simp <;> omega
theorem unmA_mem {d:Sd} {k a:Nat} (h:a ∈ unmA d k):∃ j,j < k∧tb d.aw j=true∧tb d.mw j=false∧a=slA d j:=by
 induction k with
 | zero=>cases h
 | succ k ih=>
  rw [unmA,List.mem_append] at h
  rcases h with h | h
  ·obtain ⟨j,h1,h2⟩:=ih h
   exact ⟨j,by omega,h2⟩
  ·split at h
   ·rename_i hb
    simp only [Bool.and_eq_true,Bool.not_eq_true'] at hb
    rw [List.mem_singleton] at h
    exact ⟨k,by omega,hb.1,hb.2,h⟩
   ·cases h
set_option maxHeartbeats 4000000 in
theorem zunmarked_any {w:World} {d:Sd} {A M:Option Addr} (ca cm:Nat) (ok:Ok1 d) (hA:Row w w.heap.size A d.aw) (hM:Row w w.heap.size M d.mw) :
  Calls Tryz.prog 192 #[spv d A ca M cm] w fun e w'=>∃ L c,e=.returned (.slice L (unmA d (slN d)).length c)∧OwnsN w' w.heap.size L (unmA d (slN d)).length c (unmA d (slN d))∧Below w.heap.size w w':=by
 obtain ⟨N1,N8,HN⟩:=ok.slK
 have han:=ok.an
 have hmn:=ok.mn
 have hpl:=ok.placed
 have hsz:=ok.sized.slots
 unfold Placed at hpl
 obtain ⟨i0,hi,hz0,hz1,hz2⟩:=info_parts info_u64
 have HGA:=Lib.hid fun (w:World) (hr:Row w w.heap.size A d.aw) (k:Nat) (hk:k < slN d)=>get_in (w:=w) (n:=d.an) (A:=A) (ws:=d.aw) ca (k:Int) hr ok.a (by omega) (by omega)
 have HGM:=Lib.hid fun (w:World) (hr:Row w w.heap.size M d.mw) (k:Nat) (hk:k < slN d)=>get_in (w:=w) (n:=d.mn) (A:=M) (ws:=d.mw) cm (k:Int) hr ok.m (by omega) (by omega)
 have HAD:=Lib.hid fun (w:World) hA hM (k:Nat) (hk:k < slN d)=>sAddr_any (w:=w) (d:=d) (A:=A) (M:=M) ca cm hA hM (k:Int) ((slA d k:Nat):Int) 0 (.inl ⟨ok,by omega,by omega,(ok.slA_eq hk).1,rfl⟩)
 have HW64:=Lib.hid fun (k:Nat) (hk:k < slN d)=>show slA d k < W64 from by have:=ok.slA_eq hk;unfold W64;omega
 have HUW:Hid (∀ k,k ≤ slN d → ∀ x ∈ unmA d k,x < W64):=Lib.hid (fun k hk x hx=>by
  obtain ⟨j,h1,_,_,rfl⟩:=unmA_mem hx
  exact HW64.out j (by omega))
 have HSU:=Lib.hid fun k=>show unmA d (k + 1)=unmA d k ++ if tb d.aw k && !tb d.mw k then [slA d k] else [] from rfl
 have HUL:=Lib.hid (unmA_len d)
 have HAN:Hid (d.an=((slN d:Nat):Int)):=Lib.hid (by omega)
 obtain ⟨N,hN⟩:∃ N,Hid (slN d=N):=⟨_,Lib.hid rfl⟩
 rw [hN.out] at N1 N8 HGA HGM HAD HUW HAN HW64 ⊢
 have hS8:Sp8 (w.alloc (.cells #[.int .i64 d.f,.int .i64 d.p,.int .i64 d.z,.int .i64 d.an,.slice A d.aw.length ca,.int .i64 d.mn,.slice M d.mw.length cm,.bool d.s] 99)) w.heap.size 0 d A ca M cm:=Sp8.new w d A ca M cm _
 clear ok han hmn hpl hsz HN
 obtain ⟨UA,hUA⟩:∃ UA:Nat → List Nat,Hid (UA=unmA d):=⟨_,Lib.hid rfl⟩
 rw [← hUA.out] at HUW HSU HUL ⊢
 obtain ⟨df,dp,dz,dan,daw,dmn,dmw,ds⟩:=d
 unfold spv at HAD ⊢
 simp only at HGA HGM HAD HSU HAN hA hM hS8 ⊢
 generalize hsl:(fun k=>slA ⟨df,dp,dz,dan,daw,dmn,dmw,ds⟩ k)=sl at *
 have HSL:Hid (∀ k,slA ⟨df,dp,dz,dan,daw,dmn,dmw,ds⟩ k=sl k):=Lib.hid fun k=>by rw [← hsl]
 simp only [HSL.out] at HAD HSU HW64
 clear hsl hUA hN HSL
 have hU0:UA 0=[]:=List.eq_nil_of_length_eq_zero (by have:=HUL.out 0;omega)
 rw [HAN.out] at HGA HAD hS8 ⊢
 go_enter Tryz.func192,Tryz.ntmps192
 obtain ⟨c0,c1,c2,c3,c4,c5,c6,c7⟩:=id hS8
 go_wp2_with fail
 clear c0 c1 c2 c3 c4 c5 c6 c7
 go_loopw [3,14] (fun tv ii wr=>∃ (k:Nat) (L:Option Addr) (c:Nat),ii=.int .i64 (k:Nat)∧k ≤ N∧tv=.slice L (UA k).length c∧OwnsN wr (w.heap.size + 1) L (UA k).length c (UA k)∧Sp8 wr w.heap.size 0 ⟨df,dp,dz,(N:Nat),daw,dmn,dmw,ds⟩ A ca M cm∧w.heap.size + 1 ≤ wr.heap.size∧Below w.heap.size w wr) (fun tv ii _=>N - (intOf ii).toNat)
 case atStart=>
  have ha:Below w.heap.size w (w.alloc (.cells #[.int .i64 df,.int .i64 dp,.int .i64 dz,.int .i64 (N:Nat),.slice A daw.length ca,.int .i64 dmn,.slice M dmw.length cm,.bool ds] 99)):=Below.alloc (Below.refl _ _) (Nat.le_refl _) _
  exact ⟨0,none,0,rfl,Nat.zero_le _,by rw [hU0];rfl,by rw [hU0];exact OwnsN.nil _ _,hS8,by rw [World.size_alloc];exact Nat.le_refl _,ha⟩
 case round=>
  obtain ⟨k,L,c,rfl,hk,rfl,hO,h8,hsz,hbr⟩:=hrel
  have hsr:=hbr.size
  by_cases hlt:k < N
  ·have HSUk:=Lib.hid (HSU.out k)
   obtain ⟨c0,c1,c2,c3,c4,c5,c6,c7⟩:=id h8
   go_wp2_with fail
   go_at_call 241
   refine (HGA.out _ (hA.later hbr) k hlt).mono ?_
   rintro e w1 ⟨rfl,hb_w1⟩
   have h81:=h8.later hb_w1
   have hb1:Below w.heap.size w w1:=hbr.trans (hb_w1.mono (by omega))
   have hO1:=hO.later hb_w1
   have hs1:=hb_w1.size
   clear c0 c1 c2 c3 c4 c5 c6 c7
   obtain ⟨c0,c1,c2,c3,c4,c5,c6,c7⟩:=id h81
   go_wp2_with fail
   go_at_call 241
   refine (HGM.out _ (hM.later hb1) k hlt).mono ?_
   rintro e w2 ⟨rfl,hb_w2⟩
   have h82:=h81.later hb_w2
   have hb2:Below w.heap.size w w2:=hb1.trans (hb_w2.mono (by omega))
   have hO2:=hO1.later hb_w2
   have hs2:=hb_w2.size
   clear c0 c1 c2 c3 c4 c5 c6 c7 h8 h81 hb_w1 hb_w2 hO hO1 hb1
   obtain ⟨ta,hta⟩:∃ t,Hid (tb daw k=t):=⟨_,Lib.hid rfl⟩
   obtain ⟨tm,htm⟩:∃ t,Hid (tb dmw k=t):=⟨_,Lib.hid rfl⟩
   rw [hta.out,htm.out] at HSUk
   rw [Int.toNat_natCast,hta.out,htm.out]
   obtain ⟨c0,c1,c2,c3,c4,c5,c6,c7⟩:=id h82
   rcases ta with _ | _
   ·rcases tm with _ | _
    ·have hU:UA (k + 1)=UA k:=by rw [HSUk.out];exact List.append_nil _
     have HO2:=Lib.hid hO2
     have HB2:=Lib.hid hb2
     have HU:=Lib.hid hU
     have H82:=Lib.hid h82
     clear hU hO2 hb2 h82 c0 c1 c2 c3 c4 c5 c6 c7
     go_wp2
     go_roundw
     case rel=>exact ⟨k + 1,L,c,by go_num,by omega,by rw [HU.out],by rw [HU.out];exact HO2.out,H82.out,by omega,HB2.out⟩
     case measure=>simp [intOf];omega
    ·have hU:UA (k + 1)=UA k:=by rw [HSUk.out];exact List.append_nil _
     have HO2:=Lib.hid hO2
     have HB2:=Lib.hid hb2
     have HU:=Lib.hid hU
     have H82:=Lib.hid h82
     clear hU hO2 hb2 h82 c0 c1 c2 c3 c4 c5 c6 c7
     go_wp2
     go_roundw
     case rel=>exact ⟨k + 1,L,c,by go_num,by omega,by rw [HU.out],by rw [HU.out];exact HO2.out,H82.out,by omega,HB2.out⟩
     case measure=>simp [intOf];omega
   rcases tm with _ | _
   ·have hU:UA (k + 1)=UA k ++ [sl k]:=by rw [HSUk.out];rfl
    go_wp2_with fail
    go_at_call 161
    refine (HAD.out _ (hA.later hb2) (hM.later hb2) k hlt).mono ?_
    rintro e w3 ⟨rfl,hb_w3⟩
    have h83:=h82.later hb_w3
    have hb3:Below w.heap.size w w3:=hb2.trans (hb_w3.mono (by omega))
    have hO3:=hO2.later hb_w3
    have hs3:=hb_w3.size
    obtain ⟨n,hn⟩:∃ n,(UA k).length=n:=⟨_,rfl⟩
    have hnk:n ≤ k:=by rw [← hn];exact HUL.out k
    rw [hn] at hO3 ⊢
    have hskw:sl k < W64:=HW64.out k hlt
    have HUU:=Lib.hid hU
    have HN:=Lib.hid hn
    have HO3:=Lib.hid hO3
    have HB3:=Lib.hid hb3
    have H83:=Lib.hid h83
    have hlw:Hid (∀ q,(Value.slice L n c).ownBlock=some q → w.heap.size + 1 ≤ q):=Lib.hid fun q hq=>(hO3.row_.lt q hq).1
    clear hU hn hO3 hO2 hb3 hb2 h83 h82 c0 c1 c2 c3 c4 c5 c6 c7 hb_w3
    have hrow:Hid (∀ W',Below w3.heap.size w3 W' → W'.ownsRow (w.heap.size + 1) 32 1 (.slice L n c) n (vals (UA k))):=Lib.hid fun W' hb=>owns_laterN HO3.out.row_ hb
    go_wp2_with (at_builtin;refine wpList_append_lies _ ?_ (.tmp 42) (.tmp 44) 22 ?_ (w.heap.size + 1) 32 i0 _ 1 8 Tryz.underlying22 hi hz0 hz1 hz2 rfl (by omega) (.slice L n c) n (vals (UA k)) ?_ (hrow.out _ bX) ⟨w3.heap.size,0,none⟩ 1 1 (vals [sl k]) ?_ rfl ?_ (vals_one _) (by omega) (by unfold maxLen;omega) (by omega) (by simp only [zA];omega) _ rfl ?_;rfl;rfl;rfl;rfl;(intro j u hj;rw [add_form];have hj0:j=0:=(by have:=(List.getElem?_eq_some_iff.1 hj).1;simpa [vals] using this);subst hj0;have hu:u=.int .u64 (sl k:Nat):=(by simpa [vals] using hj.symm);subst hu;simp [go_sem]);intro g9 cap9 w9 hown9 hg9 hat9 hlt9)
    have hb9:Below (w.heap.size + 1) w3 w9:=Below.grown (w:=w3.alloc _) ((Below.refl _ _).alloc (by omega) _) hg9 (by simp only [zA];omega) (fun q hq=>hlw.out q (by first | exact hq | exact hq.symm))
    have ho9:w9.ownsRow (w.heap.size + 1) 32 1 (.slice (some ⟨g9,0,none⟩) (n + 1) cap9) (n + 1) (vals (UA (k + 1))):=by
     rw [HUU.out]
     have e:vals (UA k ++ [sl k])=vals (UA k) ++ vals [sl k]:=by simp [vals]
     rw [e]
     exact hown9
    have hl9:(UA (k + 1)).length=n + 1:=by rw [HUU.out,List.length_append,HN.out];rfl
    have hO9:OwnsN w9 (w.heap.size + 1) (some ⟨g9,0,none⟩) (n + 1) cap9 (UA (k + 1)):=⟨hl9,HUW.out _ (by omega),ho9⟩
    have hs9:=hb9.size
    exact ⟨⟨k + 1,_,_,by go_num,by omega,by rw [hl9],by rw [hl9];exact hO9,H83.out.below hb9 (by omega),by omega,HB3.out.trans (hb9.mono (by omega))⟩,by simp [intOf];omega⟩
   ·have hU:UA (k + 1)=UA k:=by rw [HSUk.out];exact List.append_nil _
    have HO2:=Lib.hid hO2
    have HB2:=Lib.hid hb2
    have HU:=Lib.hid hU
    have H82:=Lib.hid h82
    clear hU hO2 hb2 h82 c0 c1 c2 c3 c4 c5 c6 c7
    go_wp2
    go_roundw
    case rel=>exact ⟨k + 1,L,c,by go_num,by omega,by rw [HU.out],by rw [HU.out];exact HO2.out,H82.out,by omega,HB2.out⟩
    case measure=>simp [intOf];omega
  ·obtain rfl:k=N:=by omega
   have hO':=Lib.hid (hO.mono (by omega:w.heap.size ≤ w.heap.size + 1))
   go_wp2
   go_ret
   exact ⟨L,c,rfl,hO'.out,hbr⟩
def droL (l:List Sd) (i:Nat):List Sd:=l.take i ++ l.drop (i + 1)
def droH (h:Hp) (i:Nat):Hp:=⟨h.ws,h.n,fillW h.us (nth h.l i).f.toNat (nth h.l i).p.toNat false,droL h.l i⟩
theorem idx_first {l:List Sd} (h:OkL l) {i:Nat} (hi:i < l.length):IdxE l (fun d=>d.f == (nth l i).f) (i:Nat):=by
 refine .inr ⟨i,rfl,hi,by simp,fun j hj=>?_⟩
 have h1:=h.farther hj hi
 have h2:=(h.at_ (show j < l.length by omega)).sized.slots
 have:(nth l j).f ≠ (nth l i).f:=by omega
 simp [this]
set_option maxHeartbeats 4000000 in
theorem zdrop_any {w:World} {B b:Nat} {v:Hv} {h:Hp} (m:WB w B b v h) (hl:OkL h.l) (hR:Right h.n h.us) {i:Nat} (hi:i < h.l.length) (h1:(nth h.l i).f + (nth h.l i).p ≤ h.n)
  (hu:∀ j:Nat,(nth h.l i).f ≤ j → (j:Int) < (nth h.l i).f + (nth h.l i).p → tb h.us j=true) (A M:Option Addr) (ca cm:Nat) :
  Calls Tryz.prog 196 #[.pointer (some ⟨b,0,none⟩),spv (nth h.l i) A ca M cm] w fun e w'=>e=.returned (.tuple #[])∧(∃ v',WB w' B b v' (droH h i))∧Below B w w'∧w.grownBy w' (some b):=by
 have hbl:=m.lt
 have hle:=m.le
 have ok:=hl.at_ hi
 have hpl:=ok.placed
 have hsz:=ok.sized.slots
 unfold Placed at hpl
 have hcap:=m.caps
 have hl256:=hl.1
 have HD:=Lib.hid fun (w:World) (hv:SRow w w.heap.size v.V h.l)=>sdrop_any (w:=w) (A:=v.V) (l:=h.l) v.cv hv hcap.1 (by omega) (nth h.l i).f (droL h.l i) 0 (.inr (.inr ⟨i,hl,idx_first hl hi,rfl,rfl⟩))
 have HG:=Lib.hid fun (w:World) (hr:Row w w.heap.size v.U h.us)=>give_ok (w:=w) (n:=h.n) (A:=v.U) (ws:=h.us) v.cu (nth h.l i).f (nth h.l i).p hr hR (by omega) (by omega) (by omega) hu
 unfold FreshL5 at HD
 unfold Fresh at HG
 unfold droH
 obtain ⟨L,hL⟩:∃ L,Hid (droL h.l i=L):=⟨_,Lib.hid rfl⟩
 obtain ⟨U,hU⟩:∃ U,Hid (fillW h.us (nth h.l i).f.toNat (nth h.l i).p.toNat false=U):=⟨_,Lib.hid rfl⟩
 rw [hL.out] at HD ⊢
 rw [hU.out] at HG ⊢
 obtain ⟨d,hd⟩:∃ d,Hid (nth h.l i=d):=⟨_,Lib.hid rfl⟩
 rw [hd.out] at HD HG ⊢
 obtain ⟨df,dp,dz,dan,daw,dmn,dmw,ds⟩:=d
 unfold spv
 simp only at HD HG ⊢
 have HM:=Lib.hid m
 have hV:=m.hm.v
 obtain ⟨b0,b1,b2,b3,f0,f1,f2,f3⟩:=id m.box
 have hS8:Sp8 (w.alloc (.cells #[.int .i64 df,.int .i64 dp,.int .i64 dz,.int .i64 dan,.slice A daw.length ca,.int .i64 dmn,.slice M dmw.length cm,.bool ds] 99)) w.heap.size 0 ⟨df,dp,dz,dan,daw,dmn,dmw,ds⟩ A ca M cm:=Sp8.new w ⟨df,dp,dz,dan,daw,dmn,dmw,ds⟩ A ca M cm _
 clear m hl hR h1 hu ok hpl hsz hcap hi hL hU
 go_enter Tryz.func196,Tryz.ntmps196
 go_wp2_with fail
 go_region_with (go_at_call 243;refine (HD.out _ (hV.later bX)).mono ?_;rintro e w1 ⟨A1,c1,vs1,rfl,hvs1,o1,hb_w1⟩;have p3:w1.cell? ⟨b,3,none⟩=some (.slice v.V h.l.length v.cv):=cX hb_w1;have q3:w1.frozen? ⟨b,3,none⟩=false:=((bcell hb_w1).2 _ _ lX).trans (by first | assumption | (simp [go_sem];done) | exact (World.frozen?_alloc_past _ _ _ lX).trans (by assumption)))
 all_goals
  have hb_d:Below (w.alloc (.cells #[.int .i64 df,.int .i64 dp,.int .i64 dz,.int .i64 dan,.slice A daw.length ca,.int .i64 dmn,.slice M dmw.length cm,.bool ds] 99)).heap.size (w.alloc (.cells #[.int .i64 df,.int .i64 dp,.int .i64 dz,.int .i64 dan,.slice A daw.length ca,.int .i64 dmn,.slice M dmw.length cm,.bool ds] 99)) w1:=bX
  have hsz1:(w.alloc (.cells #[.int .i64 df,.int .i64 dp,.int .i64 dz,.int .i64 dan,.slice A daw.length ca,.int .i64 dmn,.slice M dmw.length cm,.bool ds] 99)).heap.size=w.heap.size + 1:=World.size_alloc _ _
  have hs1:=hb_d.size
  rw [hsz1] at hs1
  have hbw:Below w.heap.size w w1:=bX
  have hm1:=HM.out.later hbw
  have h81:=hS8.below hb_d (by omega)
  have aS:=o1.aptS_ge (b:=b) (by first | omega | (simp only [zN,zD,zA];omega))
  have oS:=o1.mono (B':=B) (by first | omega | (simp only [zN,zD,zA];omega))
  have hm2:=hm1.setV hvs1 oS aS
  have h82:=h81.far (p:=⟨b,3,none⟩) (by show b ≠ w.heap.size;omega) (.slice A1 L.length c1)
  have hb2:Below B w (w1.setCell ⟨b,3,none⟩ (.slice A1 L.length c1)):=(hbw.mono (by omega)).setCell (p:=⟨b,3,none⟩) hle _
  have hg2:w.grownBy (w1.setCell ⟨b,3,none⟩ (.slice A1 L.length c1)) (some b):=grown_trans (grown_some b hbw) (grown_setp w1 ⟨b,3,none⟩ (.slice A1 L.length c1))
  have hs2:w.heap.size + 1 ≤ (w1.setCell ⟨b,3,none⟩ (.slice A1 L.length c1)).heap.size:=by rw [World.size_setCell];exact hs1
  clear b0 b1 b2 b3 f0 f1 f2 f3 hb_d hbw hm1 h81 aS oS o1 hsz1 hs1 p3 q3 hb_w1 hS8
  generalize w1.setCell ⟨b,3,none⟩ (.slice A1 L.length c1)=w2 at *
  obtain ⟨b0,b1,b2,b3,f0,f1,f2,f3⟩:=id hm2.box
  obtain ⟨c0,c1',c2,c3,c4,c5,c6,c7⟩:=id h82
  have hU2:=hm2.u.row
  have HM2:=Lib.hid hm2
  have HB2:=Lib.hid hb2
  have HG2:=Lib.hid hg2
  have hbl2:=hm2.lt
  clear hm2 hb2 hg2
  go_wp2_with fail
  go_region_with (go_at_call 244;refine (HG.out _ (hU2.later bX)).mono ?_;rintro e w3 ⟨U3,cu3,rfl,o3,hb_w3⟩;have p1:w3.cell? ⟨b,1,none⟩=some (.int .i64 h.n):=cX hb_w3;have q1:w3.frozen? ⟨b,1,none⟩=false:=((bcell hb_w3).2 _ _ lX).trans (by first | assumption | (simp [go_sem];done) | exact (World.frozen?_alloc_past _ _ _ lX).trans (by assumption));have p2:w3.cell? ⟨b,2,none⟩=some (.slice v.U h.us.length v.cu):=cX hb_w3;have q2:w3.frozen? ⟨b,2,none⟩=false:=((bcell hb_w3).2 _ _ lX).trans (by first | assumption | (simp [go_sem];done) | exact (World.frozen?_alloc_past _ _ _ lX).trans (by assumption)))
  all_goals
   have hbw3:Below w2.heap.size w2 w3:=bX
   have hm3:=HM2.out.later hbw3
   have hm4:=hm3.setU (cu:=cu3) (o3.mono (B':=B) (by first | omega | (simp only [zN,zD,zA];omega))) (o3.apt (b:=b) (by first | omega | (simp only [zN,zD,zA];omega)))
   have hb4:Below B w ((w3.setCell ⟨b,1,none⟩ (.int .i64 h.n)).setCell ⟨b,2,none⟩ (.slice U3 U.length cu3)):=((HB2.out.trans (hbw3.mono (by omega))).setCell (p:=⟨b,1,none⟩) hle _).setCell (p:=⟨b,2,none⟩) hle _
   have HG4:Hid (w.grownBy ((w3.setCell ⟨b,1,none⟩ (.int .i64 h.n)).setCell ⟨b,2,none⟩ (.slice U3 U.length cu3)) (some b)):=Lib.hid (grown_trans HG2.out (grown_trans (grown_some b hbw3) (grown_trans (grown_setp w3 ⟨b,1,none⟩ (.int .i64 h.n)) (grown_setp (w3.setCell ⟨b,1,none⟩ (.int .i64 h.n)) ⟨b,2,none⟩ (.slice U3 U.length cu3)))))
   have HM4:=Lib.hid hm4
   have HB4:=Lib.hid hb4
   clear hm3 hm4 hb4 hbw3 o3 hb_w3 p1 p2 q1 q2 b0 b1 b2 b3 f0 f1 f2 f3 c0 c1' c2 c3 c4 c5 c6 c7
   go_wp2
   go_end0
   exact ⟨rfl,⟨_,HM4.out⟩,HB4.out,HG4.out⟩
def clnW (ws:List Nat) (z:Nat) (us:List Nat):Nat → List Nat
 | 0=>ws
 | k + 1=>overTo (clnW ws z us k) (us.getD k 0) (fun _=>0) z
theorem clnW_len (ws:List Nat) (z:Nat) (us:List Nat) (k:Nat):(clnW ws z us k).length=ws.length:=by
 induction k with
 | zero=>rfl
 | succ k ih=>rw [clnW,length_overTo,ih]
theorem clnW_at (ws:List Nat) (z:Nat) (us:List Nat) (k x:Nat):(clnW ws z us k).getD x 0=if ∃ j,j < k∧us.getD j 0 ≤ x∧x < us.getD j 0 + z then 0 else ws.getD x 0:=by
 induction k with
 | zero=>rw [if_neg (by rintro ⟨j,h,_⟩;omega)];rfl
 | succ k ih=>
  rw [clnW,overTo_at,ih,clnW_len]
  by_cases h1:us.getD k 0 ≤ x∧x < us.getD k 0 + z
  ·by_cases h2:x < ws.length
   ·rw [if_pos ⟨h1.1,h1.2,h2⟩,if_pos ⟨k,by omega,h1⟩]
   ·have hz:ws.getD x 0=0:=by rw [List.getD_eq_getElem?_getD,List.getElem?_eq_none (by omega)];rfl
    rw [if_neg (fun q=>h2 q.2.2),hz,ite_self,ite_self]
  ·rw [if_neg (fun q=>h1 ⟨q.1,q.2.1⟩)]
   by_cases h3:∃ j,j < k∧us.getD j 0 ≤ x∧x < us.getD j 0 + z
   ·obtain ⟨j,h4,h5⟩:=id h3
    rw [if_pos h3,if_pos ⟨j,by omega,h5⟩]
   ·rw [if_neg h3,if_neg]
    rintro ⟨j,h4,h5⟩
    by_cases e:j=k
    ·subst e;exact h1 h5
    ·exact h3 ⟨j,by omega,h5⟩
def clnD (d:Sd):Sd:=⟨d.f,d.p,d.z,d.an,bothTo d.aw d.mw d.mw.length,d.mn,d.mw,true⟩
def usD (d:Sd):List Nat:=unmA d (slN d)
def cl1H (h:Hp) (i:Nat):Hp:=⟨clnW h.ws (swd (nth h.l i)) (usD (nth h.l i)) (usD (nth h.l i)).length,h.n,h.us,h.l.set i (clnD (nth h.l i))⟩
theorem Ok1.cln_tb {d:Sd} (h:Ok1 d) (k:Nat):tb (clnD d).aw k=(tb d.aw k && tb d.mw k):=by
 have e:d.aw.length=d.mw.length:=by rw [h.aw,h.mw]
 show tb (bothTo d.aw d.mw d.mw.length) k=_
 rw [← e]
 exact tb_both _ _ _ e
theorem Ok1.cln {d:Sd} (h:Ok1 d):Ok1 (clnD d):=by
 refine ⟨h.sized,h.placed,⟨h.a.1,h.a.2.1,?_,fun i h1 h2=>?_⟩,h.an,h.m,h.mn,fun i hi ht=>?_⟩
 ·show (bothTo d.aw d.mw d.mw.length).length=_
  rw [length_bothTo]
  exact h.a.2.2.1
 ·rw [h.cln_tb,h.a.2.2.2 i h1 (by
   have h2:i < 64 * (bothTo d.aw d.mw d.mw.length).length:=h2
   rwa [length_bothTo] at h2)]
  rfl
 ·rw [h.cln_tb,h.sub i hi ht]
  exact ht
theorem unmA_of {d:Sd} {k j:Nat} (hj:j < k) (ha:tb d.aw j=true) (hm:tb d.mw j=false):slA d j ∈ unmA d k:=by
 induction k with
 | zero=>omega
 | succ k ih=>
  rw [unmA,List.mem_append]
  by_cases e:j=k
  ·subst e
   right
   rw [ha,hm]
   simp
  ·exact .inl (ih (by omega))
theorem cl1H_like {h:Hp} (hk:OkH h) {i:Nat} (hi:i < h.l.length):Like h (cl1H h i):=by
 refine ⟨rfl,rfl,by show _=_;exact clnW_len _ _ _ _,by simp [cl1H],fun j hj=>?_,fun j hj=>?_⟩
 ·show Pl _ (nth (h.l.set i _) j)
  rw [nth_set _ _ _ _ hi]
  split
  ·rename_i e;rw [e];exact ⟨rfl,rfl,rfl⟩
  ·exact Pl.refl _
 ·show Ok1 (nth (h.l.set i _) j)
  rw [nth_set _ _ _ _ hi]
  split
  ·exact (hk.framed.spans.at_ hi).cln
  ·exact hk.framed.spans.at_ hj
theorem cln_word {h:Hp} {i:Nat} (x:Nat):(cl1H h i).ws.getD x 0=if ∃ q,q < slN (nth h.l i)∧tb (nth h.l i).aw q=true∧tb (nth h.l i).mw q=false∧slA (nth h.l i) q ≤ x∧x < slA (nth h.l i) q + swd (nth h.l i) then 0 else h.ws.getD x 0:=by
 show (clnW h.ws _ (usD (nth h.l i)) (usD (nth h.l i)).length).getD x 0=_
 rw [clnW_at]
 have e:(∃ j,j < (usD (nth h.l i)).length∧(usD (nth h.l i)).getD j 0 ≤ x∧x < (usD (nth h.l i)).getD j 0 + swd (nth h.l i)) ↔ ∃ q,q < slN (nth h.l i)∧tb (nth h.l i).aw q=true∧tb (nth h.l i).mw q=false∧slA (nth h.l i) q ≤ x∧x < slA (nth h.l i) q + swd (nth h.l i):=by
  constructor
  ·rintro ⟨j,h1,h2,h3⟩
   have hm:(usD (nth h.l i)).getD j 0 ∈ usD (nth h.l i):=by
    rw [List.getD_eq_getElem?_getD,List.getElem?_eq_getElem h1]
    exact List.getElem_mem h1
   obtain ⟨q,q1,q2,q3,q4⟩:=unmA_mem hm
   rw [q4] at h2 h3
   exact ⟨q,q1,q2,q3,h2,h3⟩
  ·rintro ⟨q,q1,q2,q3,q4,q5⟩
   obtain ⟨j,hj,e⟩:=List.getElem_of_mem (unmA_of (k:=slN (nth h.l i)) q1 q2 q3)
   refine ⟨j,hj,?_⟩
   have e2:(usD (nth h.l i)).getD j 0=slA (nth h.l i) q:=by
    show (unmA (nth h.l i) (slN (nth h.l i))).getD j 0=_
    rw [List.getD_eq_getElem?_getD,List.getElem?_eq_getElem hj]
    exact e
   rw [e2]
   exact ⟨q4,q5⟩
 by_cases hx:∃ j,j < (usD (nth h.l i)).length∧(usD (nth h.l i)).getD j 0 ≤ x∧x < (usD (nth h.l i)).getD j 0 + swd (nth h.l i)
 ·rw [if_pos hx,if_pos (e.1 hx)]
 ·rw [if_neg hx,if_neg (fun q=>hx (e.2 q))]
theorem cln_keeps {h:Hp} (hk:OkH h) {i j k:Nat} (hi:i < h.l.length) (hj:j < h.l.length) (hk':k < slN (nth h.l j)) (hne:¬ (j=i∧tb (nth h.l i).aw k=true∧tb (nth h.l i).mw k=false)) {x:Nat} (h1:slA (nth h.l j) k ≤ x) (h2:x < slA (nth h.l j) k + swd (nth h.l j)):(cl1H h i).ws.getD x 0=h.ws.getD x 0:=by
 rw [cln_word,if_neg]
 rintro ⟨q,q1,q2,q3,q4,q5⟩
 obtain ⟨e1,e2⟩:=slot_one hk.framed hj hk' hi q1 h1 h2 q4 q5
 subst e2
 exact hne ⟨e1,q2,q3⟩
theorem cl1H_nth {h:Hp} {i:Nat} (hi:i < h.l.length) (j:Nat):nth (cl1H h i).l j=if j=i then clnD (nth h.l i) else nth h.l j:=nth_set _ _ _ _ hi
theorem cl1H_curW {h:Hp} (hk:OkH h) {i:Nat} (hi:i < h.l.length) (hs:(nth h.l i).s=false) {j k:Nat} (hj:j < h.l.length) (hk':k < slN (nth h.l j)):tb (curW (nth (cl1H h i).l j)) k=tb (curW (nth h.l j)) k:=by
 rw [cl1H_nth hi]
 split
 ·rename_i e
  subst e
  have ok:=hk.framed.spans.at_ hj
  show tb (clnD (nth h.l j)).aw k=_
  rw [ok.cln_tb]
  unfold curW
  rw [hs]
  show _=tb (nth h.l j).mw k
  cases hm:tb (nth h.l j).mw k with
  | false=>simp
  | true=>rw [ok.sub k hk' hm];rfl
 ·rfl
theorem cl1H_cur {h:Hp} (hk:OkH h) {i:Nat} (hi:i < h.l.length) (hs:(nth h.l i).s=false) (a:Nat):Cur (cl1H h i) a ↔ Cur h a:=
 cur_like (cl1H_like hk hi) (fun j q hj hq=>cl1H_curW hk hi hs hj hq) a
theorem cl1H_ok {h:Hp} (hk:OkH h) {i:Nat} (hi:i < h.l.length) (hs:(nth h.l i).s=false):OkH (cl1H h i):=by
 have L:=cl1H_like hk hi
 have oki:=hk.framed.spans.at_ hi
 refine hk.like L (fun x hx hn=>?_) (fun j k h1 h2=>?_) (fun j k h1 h2 hc=>?_)
 ·rw [cln_word,if_neg]
  rintro ⟨q,q1,_,_,q4,q5⟩
  exact hn i q hi q1 ⟨q4,q5⟩
 ·have so:=hk.filled.sound j h1 k h2
  have hw:=hk.slotW h1 h2
  by_cases e:j=i∧tb (nth h.l i).aw k=true∧tb (nth h.l i).mw k=false
  ·obtain ⟨rfl,e2,e3⟩:=e
   have ha:tb (nth (cl1H h j).l j).aw k=false:=by
    rw [cl1H_nth h1,if_pos rfl,oki.cln_tb,e3,Bool.and_false]
   refine ⟨fun ht=>?_,fun q _ hq=>?_⟩
   ·rw [ha] at ht;cases ht
   ·have p:=L.pl j h1
    rw [p.swd] at hq
    rw [p.slA,cln_word,if_pos ⟨k,h2,e2,e3,by omega,by omega⟩]
  ·refine slotOk_congr (L.pl j h1) ?_ (fun x h3 h4=>cln_keeps hk hi h1 h2 e h3 h4) (by omega) so
   rw [cl1H_nth hi]
   split
   ·rename_i ej
    subst ej
    rw [oki.cln_tb]
    cases hm:tb (nth h.l j).aw k with
    | false=>rfl
    | true=>
     cases hm2:tb (nth h.l j).mw k with
     | false=>exact absurd ⟨rfl,hm,hm2⟩ e
     | true=>rfl
   ·rfl
 ·rw [cl1H_curW hk hi hs h1 h2] at hc
  have old:=(linked_iff hk.framed.spans).1 hk.linked j k h1 h2 hc
  have ha':=(hk.framed.spans.at_ h1).cur_sub h2 hc
  obtain ⟨v1,v2,v3,v4,v5⟩:=hk.slot h1 h2 ha'
  refine (refsAt_congr (L.pl j h1) (fun x h3 h4=>cln_keeps hk hi h1 h2 ?_ h3 (by omega)) old).mono fun a=>(cl1H_cur hk hi hs a).2
  rintro ⟨rfl,_,e3⟩
  unfold curW at hc
  rw [hs] at hc
  have hc:tb (nth h.l j).mw k=true:=hc
  rw [e3] at hc
  cases hc
theorem droL_len {l:List Sd} {i:Nat} (hi:i < l.length):(droL l i).length=l.length - 1:=by
 unfold droL
 rw [List.length_append,List.length_take,List.length_drop]
 omega
theorem droL_nth {l:List Sd} {i:Nat} (hi:i < l.length) (j:Nat):nth (droL l i) j=nth l (if j < i then j else j + 1):=by
 unfold nth droL
 rw [List.getD_eq_getElem?_getD,List.getD_eq_getElem?_getD,List.getElem?_append,List.length_take]
 by_cases h:j < i
 ·rw [if_pos (by omega),if_pos h,List.getElem?_take,if_pos h]
 ·rw [if_neg (by omega),if_neg h,List.getElem?_drop,show i + 1 + (j - min i l.length)=j + 1 by omega]
theorem droL_old {l:List Sd} {i q:Nat} (hi:i < l.length) (hq:q < l.length) (hne:q ≠ i):∃ j,j < (droL l i).length∧nth (droL l i) j=nth l q:=by
 rw [droL_len hi]
 by_cases h:q < i
 ·exact ⟨q,by omega,by rw [droL_nth hi,if_pos h]⟩
 ·exact ⟨q - 1,by omega,by rw [droL_nth hi,if_neg (by omega),show q - 1 + 1=q by omega]⟩
theorem droL_case {l:List Sd} {i j:Nat} (hi:i < l.length) (hj:j < (droL l i).length):∃ q,q < l.length∧q ≠ i∧nth (droL l i) j=nth l q:=by
 rw [droL_len hi] at hj
 refine ⟨if j < i then j else j + 1,?_,?_,droL_nth hi j⟩
 ·split <;> omega
 ·split <;> omega
theorem droL_ok {l:List Sd} (h:OkL l) {i:Nat} (hi:i < l.length):OkL (droL l i):=by
 have h256:=h.1
 refine ⟨by rw [droL_len hi];omega,fun j hj=>?_,fun j hj=>?_⟩
 ·obtain ⟨q,q1,_,q3⟩:=droL_case hi hj
  rw [q3]
  exact h.at_ q1
 ·rw [droL_len hi] at hj
  rw [droL_nth hi,droL_nth hi]
  by_cases e1:j + 1 < i
  ·rw [if_pos (by omega),if_pos e1]
   exact h.farther (by omega) (by omega)
  ·by_cases e2:j < i
   ·rw [if_pos e2,if_neg e1]
    exact h.farther (by omega) (by omega)
   ·rw [if_neg e2,if_neg e1]
    exact h.farther (by omega) (by omega)
def Empty (d:Sd):Prop:=∀ k,k < slN d → tb d.aw k=false
theorem droH_cur {h:Hp} (hk:OkH h) {i:Nat} (hi:i < h.l.length) (he:Empty (nth h.l i)) (a:Nat):Cur (droH h i) a ↔ Cur h a:=by
 constructor
 ·rintro ⟨j,k,hj,hk1,hc,ha⟩
  have hj:j < (droL h.l i).length:=hj
  obtain ⟨q,q1,_,q3⟩:=droL_case hi hj
  have hk1:k < slN (nth (droL h.l i) j):=hk1
  have hc:tb (curW (nth (droL h.l i) j)) k=true:=hc
  have ha:slA (nth (droL h.l i) j) k=a:=ha
  rw [q3] at hk1 hc ha
  exact ⟨q,k,q1,hk1,hc,ha⟩
 ·rintro ⟨q,k,hq,hk1,hc,ha⟩
  have hne:q ≠ i:=by
   rintro rfl
   have:=(hk.framed.spans.at_ hq).cur_sub hk1 hc
   rw [he k hk1] at this
   cases this
  obtain ⟨j,j1,j2⟩:=droL_old hi hq hne
  refine ⟨j,k,j1,?_,?_,?_⟩
  ·show k < slN (nth (droL h.l i) j)
   rw [j2];exact hk1
  ·show tb (curW (nth (droL h.l i) j)) k=true
   rw [j2];exact hc
  ·show slA (nth (droL h.l i) j) k=a
   rw [j2];exact ha
theorem droH_ok {h:Hp} (hk:OkH h) {i:Nat} (hi:i < h.l.length) (he:Empty (nth h.l i)):OkH (droH h i):=by
 have ok:=hk.framed.spans.at_ hi
 have hin:=hk.owned.in_ i hi
 have hss:=ok.sized.slots
 have hus:=hk.framed.pages
 have hll:=hus.long
 have hL:=droL_ok hk.framed.spans hi
 have htb:∀ q,tb (fillW h.us (nth h.l i).f.toNat (nth h.l i).p.toNat false) q=if (nth h.l i).f.toNat ≤ q∧q < (nth h.l i).f.toNat + (nth h.l i).p.toNat then false else tb h.us q:=fun q=>tb_fillW _ _ _ _ _ (by omega)
 have hF:Framed (droH h i):=⟨hk.framed.words,right_fillW hus _ _ _ (by omega),hL,hk.framed.some_,hk.framed.long⟩
 have hsw:=ok.swd_eq
 refine ⟨hF,⟨fun j hj=>?_,fun q hq=>?_⟩,⟨fun q hq hz x hx=>?_,fun j hj k hk'=>?_⟩,(linked_iff hF.spans).2 fun j k hj hk' hc=>?_⟩
 ·have hj:j < (droL h.l i).length:=hj
  obtain ⟨q,q1,_,q3⟩:=droL_case hi hj
  show 1 ≤ (nth (droL h.l i) j).f∧(nth (droL h.l i) j).f + (nth (droL h.l i) j).p ≤ h.n
  rw [q3]
  exact hk.owned.in_ q q1
 ·have hq:(q:Int) < h.n:=hq
  show tb (fillW h.us (nth h.l i).f.toNat (nth h.l i).p.toNat false) q=true ↔ Has (droL h.l i) q
  rw [htb]
  constructor
  ·intro ht
   split at ht
   ·cases ht
   ·rename_i hout
    rcases (hk.owned.used q hq).1 ht with h1 | ⟨j,hj,h1,h2⟩
    ·exact .inl h1
    ·have hne:j ≠ i:=by
      rintro rfl
      exact hout ⟨by omega,by omega⟩
     obtain ⟨r,r1,r2⟩:=droL_old hi hj hne
     exact .inr ⟨r,r1,by rw [r2];exact h1,by rw [r2];exact h2⟩
  ·rintro (h1 | ⟨j,hj,h1,h2⟩)
   ·rw [if_neg (by omega)]
    exact (hk.owned.used q hq).2 (.inl h1)
   ·obtain ⟨r,r1,r0,r3⟩:=droL_case hi hj
    rw [r3] at h1 h2
    rw [if_neg]
    ·exact (hk.owned.used q hq).2 (.inr ⟨r,r1,h1,h2⟩)
    ·rintro ⟨g1,g2⟩
     rcases Nat.lt_or_gt_of_ne r0 with hlt | hgt
     ·have:=hk.framed.spans.farther hlt hi
      omega
     ·have:=hk.framed.spans.farther hgt r1
      omega
 ·have hq:(q:Int) < h.n:=hq
  have hz:q=0 ∨ tb (fillW h.us (nth h.l i).f.toNat (nth h.l i).p.toNat false) q=false:=hz
  show h.ws.getD (q * 16 + x) 0=0
  rw [htb] at hz
  by_cases hr:(nth h.l i).f.toNat ≤ q∧q < (nth h.l i).f.toNat + (nth h.l i).p.toNat
  ·obtain ⟨y,hy⟩:∃ y:Nat,y=q * 16 + x - (nth h.l i).f.toNat * 16:=⟨_,rfl⟩
   obtain ⟨s,hs⟩:∃ s,swd (nth h.l i)=s:=⟨_,rfl⟩
   obtain ⟨m,hm⟩:∃ m,slN (nth h.l i)=m:=⟨_,rfl⟩
   have hsw1:=hsw.1
   have hsw2:=hsw.2.1
   rw [hs] at hsw1 hsw2
   rw [hm] at hsw1
   have hy2:y < m * s:=by omega
   have hk1:y / s < m:=by
    rw [Nat.div_lt_iff_lt_mul (by omega)]
    exact hy2
   have so:=hk.filled.sound i hi (y / s) (by rw [hm];exact hk1)
   have ha:=he (y / s) (by rw [hm];exact hk1)
   have hA:=ok.slA_nat (k:=y / s) (by rw [hm];exact hk1)
   rw [hs] at hA
   have h0:=so.rest (y % s) (by unfold takN;rw [ha];simp) (by rw [hs];exact Nat.mod_lt _ (by omega))
   have hd:=Nat.div_add_mod y s
   rw [Nat.mul_comm] at hd
   rw [hA] at h0
   rwa [show (nth h.l i).f.toNat * 16 + y / s * s + y % s=q * 16 + x by omega] at h0
  ·rw [if_neg hr] at hz
   exact hk.filled.free q hq hz x hx
 ·have hj:j < (droL h.l i).length:=hj
  obtain ⟨q,q1,_,q3⟩:=droL_case hi hj
  have hk':k < slN (nth (droL h.l i) j):=hk'
  show SlotOk h.ws (nth (droL h.l i) j) k
  rw [q3] at hk' ⊢
  exact hk.filled.sound q q1 k hk'
 ·have hj:j < (droL h.l i).length:=hj
  obtain ⟨q,q1,_,q3⟩:=droL_case hi hj
  have hk':k < slN (nth (droL h.l i) j):=hk'
  have hc:tb (curW (nth (droL h.l i) j)) k=true:=hc
  show RefsAt h.ws (Cur (droH h i)) (nth (droL h.l i) j) k
  rw [q3] at hk' hc ⊢
  exact ((linked_iff hk.framed.spans).1 hk.linked q k q1 hk' hc).mono fun a=>(droH_cur hk hi he a).2
def clnH (h:Hp) (i:Nat):Hp:=if countTo (clnD (nth h.l i)).aw (nth h.l i).an.toNat=0 then droH (cl1H h i) i else cl1H h i
theorem count_none {ws:List Nat} {n:Nat} (h:countTo ws n=0):∀ k,k < n → tb ws k=false:=by
 rw [countTo_cntB] at h
 induction n with
 | zero=>intro k hk;omega
 | succ n ih=>
  intro k hk
  rw [cntB] at h
  by_cases e:k=n
  ·subst e
   cases hb:tb ws k with
   | false=>rfl
   | true=>rw [hb] at h;simp at h
  ·exact ih (by omega) k (by omega)
theorem cln_empty {h:Hp} (hk:OkH h) {i:Nat} (hi:i < h.l.length) (h0:countTo (clnD (nth h.l i)).aw (nth h.l i).an.toNat=0):Empty (nth (cl1H h i).l i):=by
 rw [cl1H_nth hi,if_pos rfl]
 intro k hk'
 have ok:=hk.framed.spans.at_ hi
 have h1:=ok.slK
 have h2:=ok.an
 have hk':k < slN (nth h.l i):=hk'
 exact count_none h0 k (by omega)
theorem clnH_ok {h:Hp} (hk:OkH h) {i:Nat} (hi:i < h.l.length) (hs:(nth h.l i).s=false):OkH (clnH h i):=by
 unfold clnH
 split
 ·rename_i h0
  exact droH_ok (cl1H_ok hk hi hs) (by rw [(cl1H_like hk hi).l];exact hi) (cln_empty hk hi h0)
 ·exact cl1H_ok hk hi hs
theorem OwnsH.nil {w:World} {B:Nat} {v:Hv} {h:Hp} (o:OwnsH w B v h):v.V=none → v.cv=0:=by
 obtain ⟨vs,e,h1⟩:=o.s
 exact (owns_cap h1.row_).2
theorem fn_at {h:Hp} (hk:OkH h) {j k:Nat} (hj:j < h.l.length) (hk':k < slN (nth h.l j)) (hc:tb (curW (nth h.l j)) k=true):fnO h (slA (nth h.l j) k)=obAt h.ws (nth h.l j) j k∧fnY h (slA (nth h.l j) k)=0:=
 fnO_at hk ((cursH_iff hk.framed.spans (obAt h.ws (nth h.l j) j k)).2 ⟨j,k,hj,hk',hc,rfl⟩)
theorem fn_case {h:Hp} (hk:OkH h) {a:Nat} (hy:fnY h a=0):∃ j k,j < h.l.length∧k < slN (nth h.l j)∧tb (curW (nth h.l j)) k=true∧slA (nth h.l j) k=a∧fnO h a=obAt h.ws (nth h.l j) j k:=by
 obtain ⟨h1,h2⟩:=fnO_mem hy
 obtain ⟨j,k,hj,hk',hc,e⟩:=(cursH_iff hk.framed.spans _).1 h1
 refine ⟨j,k,hj,hk',hc,?_,e⟩
 rw [← h2,e]
 rfl
theorem fnY_zero {h:Hp} (hk:OkH h) (a:Nat):fnY h a=0 ↔ Cur h a:=by
 constructor
 ·intro hy
  obtain ⟨j,k,hj,hk',hc,ha,_⟩:=fn_case hk hy
  exact ⟨j,k,hj,hk',hc,ha⟩
 ·rintro ⟨j,k,hj,hk',hc,rfl⟩
  exact (fn_at hk hj hk' hc).2
theorem fnY_of {h:Hp} (hk:OkH h) (a:Nat):(a=0∧fnY h a=7) ∨ (a ≠ 0∧¬ Cur h a∧fnY h a=10) ∨ (a ≠ 0∧Cur h a∧fnY h a=0):=by
 by_cases h0:a=0
 ·exact .inl ⟨h0,by unfold fnY;rw [if_pos h0]⟩
 ·by_cases hc:Cur h a
  ·exact .inr (.inr ⟨h0,hc,(fnY_zero hk a).2 hc⟩)
  ·refine .inr (.inl ⟨h0,hc,?_⟩)
   rcases fnY_case h a with e | e | e
   ·exact absurd ((fnY_zero hk a).1 e) hc
   ·unfold fnY at e
    rw [if_neg h0] at e
    split at e <;> cases e
   ·exact e
theorem exB_iff {h:Hp} (hk:OkH h) (x:Nat):exB h x=true ↔ (x=0 ∨ Cur h x):=by
 unfold exB
 rw [decide_eq_true_iff]
 exact leads_iff hk.framed.spans x
theorem SrE.zero {h:Hp} (hk:OkH h) {a:Nat} {f:Int} {x:Nat} {r:Bool} (hE:SrE h a f x r 0) :
  ∃ j k,j < h.l.length∧k < slN (nth h.l j)∧tb (curW (nth h.l j)) k=true∧slA (nth h.l j) k=a∧fnO h a=obAt h.ws (nth h.l j) j k∧0 ≤ f∧f < unN (h.ws.getD a 0)∧(unM (h.ws.getD a 0)).testBit f.toNat=r∧(r=true → x=0 ∨ Cur h x):=by
 rcases hE with ⟨h1,h2⟩ | ⟨_,_,h2⟩ | ⟨_,_,_,h2⟩ | ⟨_,_,_,_,_,h2⟩ | ⟨h1,h2,h3,h4,_⟩
 ·exact absurd h2.symm h1
 ·cases h2
 ·cases h2
 ·cases h2
 ·obtain ⟨j,k,hj,hk',hc,ha,e⟩:=fn_case hk h1
  rw [e] at h2 h3
  subst ha
  exact ⟨j,k,hj,hk',hc,rfl,e,h2.1,h2.2,h3,fun hr=>(exB_iff hk x).1 (h4 hr)⟩
theorem StoE.ok {h:Hp} {a:Nat} {f:Int} {x:Nat} {r:Bool} {h':Hp} {y:Int} (hE:StoE h a f x r h' y) (hk:OkH h):OkH h':=by
 rcases hE with ⟨h1,_⟩ | ⟨_,_,_,rfl⟩ | ⟨_,hs,h0,rfl⟩
 ·exact absurd hk h1
 ·exact hk
 ·subst h0
  obtain ⟨j,k,hj,hk',hc,rfl,e,f0,f1,hb,hx⟩:=hs.zero hk
  have hf:((f.toNat:Nat):Int) < unN (h.ws.getD (slA (nth h.l j) k) 0):=by omega
  exact stoH_ok hk hj hk' ((hk.framed.spans.at_ hj).cur_sub hk' hc) hf fun ht=>hx (by rw [← hb];exact ht)
theorem MarE.ok {h:Hp} {a:Nat} {h':Hp} {b:Bool} {y:Int} (hE:MarE h a h' b y) (hk:OkH h):OkH h':=by
 rcases hE with ⟨h1,_⟩ | ⟨_,_,rfl,_⟩ | ⟨_,h0,rfl,_⟩
 ·exact absurd hk h1
 ·exact hk
 ·obtain ⟨j,k,hj,hk',hc,ha,e⟩:=fn_case hk h0
  rw [e]
  exact marH_ok hk hj hk' hc
theorem TrnE.ok {h:Hp} {h':Hp} {y:Int} (hE:TrnE h h' y) (hk:OkH h):OkH h':=by
 rcases hE with ⟨h1,_⟩ | ⟨_,_,rfl,_⟩ | ⟨_,_,_,rfl,_⟩ | ⟨_,_,hc,rfl,_⟩
 ·exact absurd hk h1
 ·exact hk
 ·exact hk
 ·exact trnH_ok hk hc
theorem NewE.made {h:Hp} {n:Int} {m:Nat} {bl:Bool} {h':Hp} {a:Nat} (hE:NewE h n m bl h' a 0):OkH h∧OkH h'∧Sh n m∧(∀ x,Cur h' x ↔ (Cur h x ∨ x=a))∧¬ Cur h a ∧
  ∃ (I K:Nat) (h1:Hp),OkH h1∧(∀ x,Cur h1 x ↔ Cur h x)∧h1.ws=h.ws∧h1.n=h.n∧I < h1.l.length∧K < slN (nth h1.l I)∧(nth h1.l I).s=true∧tb (nth h1.l I).aw K=false∧fitsB n (nth h1.l I)=true∧h'=plcH h1 I K n m bl∧a=slA (nth h1.l I) K:=by
 rcases hE with ⟨_,_,_,h2⟩ | ⟨_,_,_,_,h2⟩ | ⟨_,_,_,h2,_⟩ | ⟨hk,hsh,_,I,K,h1,hR,rfl,rfl⟩
 ·cases h2
 ·cases h2
 ·exact absurd rfl h2
 ·have hs:0 ≤ n∧n ≤ 48:=by unfold Sh at hsh;omega
  rcases hR.does hk hs.1 hs.2 with ⟨h2,_⟩ | ⟨_,ok1,hcur,hws,hn,I',K',eI,eK,hI,hK,hsw,hfree,hfit⟩
  ·exact absurd rfl h2
  obtain rfl:I=I':=by omega
  obtain rfl:K=K':=by omega
  refine ⟨hk,plcH_ok ok1 hI hK hsw hfree hsh hfit bl,hsh,fun x=>?_,fun hc=>?_,I,K,h1,ok1,hcur,hws,hn,hI,hK,hsw,hfree,hfit,rfl,rfl⟩
  ·rw [plcH_cur ok1 hI hK hsw,hcur]
  ·obtain ⟨j,k,hj,hk',hcc,ha⟩:=(hcur _).2 hc
   have w1:=ok1.slotW hI hK
   have w2:=ok1.slotW hj hk'
   obtain ⟨rfl,rfl⟩:=slot_one ok1.framed hj hk' hI hK (i:=slA (nth h1.l I) K) (by omega) (by omega) (Nat.le_refl _) (by omega)
   have:=(ok1.framed.spans.at_ hj).cur_sub hk' hcc
   rw [hfree] at this
   cases this
def ClnE (h:Hp) (f:Int) (h':Hp) (t:List Nat) (y:Int):Prop:=(¬ OkH h∧h'=hp0∧t=[]∧y=2) ∨ (OkH h∧IdxE h.l (fun d=>d.f == f) (-1)∧h'=h∧t=[]∧y=3) ∨
 (∃ i:Nat,OkH h∧IdxE h.l (fun d=>d.f == f) (i:Int)∧(nth h.l i).s=true∧h'=h∧t=[]∧y=5) ∨ (∃ i:Nat,OkH h∧IdxE h.l (fun d=>d.f == f) (i:Int)∧(nth h.l i).s=false∧h'=clnH h i∧t=usD (nth h.l i)∧y=0)
theorem ClnE.ex (h:Hp) (f:Int):∃ h' t y,ClnE h f h' t y:=by
 by_cases hk:OkH h
 ·obtain ⟨r,hr⟩:=IdxE.ex h.l fun d=>d.f == f
  rcases hr with ⟨rfl,h1⟩ | ⟨i,rfl,h1⟩
  ·exact ⟨_,_,_,.inr (.inl ⟨hk,.inl ⟨rfl,h1⟩,rfl,rfl,rfl⟩)⟩
  ·rcases hs:(nth h.l i).s with _ | _
   ·exact ⟨_,_,_,.inr (.inr (.inr ⟨i,hk,.inr ⟨i,rfl,h1⟩,hs,rfl,rfl,rfl⟩))⟩
   ·exact ⟨_,_,_,.inr (.inr (.inl ⟨i,hk,.inr ⟨i,rfl,h1⟩,hs,rfl,rfl,rfl⟩))⟩
 ·exact ⟨_,_,_,.inl ⟨hk,rfl,rfl,rfl⟩⟩
theorem ClnE.ok {h:Hp} {f:Int} {h':Hp} {t:List Nat} {y:Int} (hE:ClnE h f h' t y) (hk:OkH h):OkH h':=by
 rcases hE with ⟨h1,_⟩ | ⟨_,_,rfl,_⟩ | ⟨i,_,_,_,rfl,_⟩ | ⟨i,_,hI,hs,rfl,_⟩
 ·exact absurd hk h1
 ·exact hk
 ·exact hk
 ·exact clnH_ok hk hI.lt hs
set_option maxHeartbeats 1000000 in
theorem xfits_any {w:World} (n:Int) (m:Nat) (h0:0 ≤ n) (h1:n ≤ 48) (d:Sd) (A:Option Addr) (ca:Nat) (M:Option Addr) (cm:Nat) (b:Bool) (hb:fitsB n d=b) :
  Calls Tryz.prog 176 #[.agg #[.int .i64 n,.int .u64 (m:Nat)],spv d A ca M cm] w fun e w'=>e=.returned (.bool b)∧Below w.heap.size w w':=by
 have HO:=Lib.hid fun (w:World)=>rcof_in (w:=w) (n + 1) (by omega) (by omega)
 have HP:=Lib.hid fun (w:World)=>rcpages_in (w:=w) (n + 1) (by omega) (by omega)
 have hw1:IntKind.i64.wrap (n + 1)=n + 1:=by rw [IntKind.wrap_i64];omega
 unfold fitsB at hb
 obtain ⟨df,dp,dz,dan,daw,dmn,dmw,ds⟩:=d
 simp only at hb
 unfold spv
 simp only
 have key:∀ (c s:Int) (y:Int),clsOf (n + 1)=c → szn n=(if y=0 then s else 0) → (∀ w:World,Calls Tryz.prog 80 #[.int .i64 c] w fun e w'=>e=.returned (.tuple #[.int .i64 s,.int .i64 y])∧w=w') → (y=0 ∨ (y != 0)=true) →
   Calls Tryz.prog 176 #[.agg #[.int .i64 n,.int .u64 (m:Nat)],.agg #[.int .i64 df,.int .i64 dp,.int .i64 dz,.int .i64 dan,.slice A daw.length ca,.int .i64 dmn,.slice M dmw.length cm,.bool ds]] w fun e w'=>e=.returned (.bool b)∧Below w.heap.size w w':=by
  intro c s y hc hs HS0 hy
  rw [hc] at HO
  have HS:=Lib.hid HS0
  clear HS0 hc
  generalize pgOf (n + 1)=p at *
  rcases hy with rfl | hy
  ·rw [if_pos rfl] at hs
   rw [hs] at hb
   have e1:(s == dz)=(dz == s):=by rw [Bool.eq_iff_iff,beq_iff_eq,beq_iff_eq];exact eq_comm
   have e2:(p == dp)=(dp == p):=by rw [Bool.eq_iff_iff,beq_iff_eq,beq_iff_eq];exact eq_comm
   clear hs
   rcases hd1:(dz == s) with _ | _ <;> rcases hd2:(dp == p) with _ | _
   all_goals
    rw [hd1] at e1 hb
    rw [hd2] at e2 hb
    simp only [Bool.and_true,Bool.and_false,Bool.true_and,Bool.false_and,Bool.and_self] at hb
    subst hb
    clear hd1 hd2
    go_enter Tryz.func176,Tryz.ntmps176
    go_wp2_with fail
    try simp only [hw1]
    go_at_call 79
    refine (HO.out _).mono ?_
    rintro e w0 ⟨rfl,rfl⟩
    go_wp2_with fail
    try simp only [hw1]
    go_at_call 83
    refine (HP.out _).mono ?_
    rintro e w0 ⟨rfl,rfl⟩
    go_wp2_with fail
    go_at_call 80
    refine (HS.out _).mono ?_
    rintro e w0 ⟨rfl,rfl⟩
    go_wp2
    go_ret
    exact ⟨rfl,bX⟩
  ·have hy0:¬ y=0:=by simpa using hy
   rw [if_neg hy0] at hs
   rw [hs] at hb
   have e1:((0:Int) == dz)=(dz == 0):=by rw [Bool.eq_iff_iff,beq_iff_eq,beq_iff_eq];exact eq_comm
   have e2:(p == dp)=(dp == p):=by rw [Bool.eq_iff_iff,beq_iff_eq,beq_iff_eq];exact eq_comm
   clear hs hy0
   rcases hd1:(dz == 0) with _ | _ <;> rcases hd2:(dp == p) with _ | _
   all_goals
    rw [hd1] at e1 hb
    rw [hd2] at e2 hb
    simp only [Bool.and_true,Bool.and_false,Bool.true_and,Bool.false_and,Bool.and_self] at hb
    subst hb
    clear hd1 hd2
    go_enter Tryz.func176,Tryz.ntmps176
    go_wp2_with fail
    try simp only [hw1]
    go_at_call 79
    refine (HO.out _).mono ?_
    rintro e w0 ⟨rfl,rfl⟩
    go_wp2_with fail
    try simp only [hw1]
    go_at_call 83
    refine (HP.out _).mono ?_
    rintro e w0 ⟨rfl,rfl⟩
    go_wp2_with fail
    go_at_call 80
    refine (HS.out _).mono ?_
    rintro e w0 ⟨rfl,rfl⟩
    go_wp2
    go_ret
    exact ⟨rfl,bX⟩
 by_cases h16:n + 1 ≤ 16
 ·obtain ⟨c,hc0,hc4,HC⟩:∃ c:Int,0 ≤ c∧c < 4∧clsOf (n + 1)=c:=by
   rcases clsOf_case (n + 1) (by omega) with ⟨_,h⟩ | ⟨_,_,h⟩ | ⟨_,_,h⟩ | ⟨_,_,h⟩ | ⟨h,_⟩
   ·exact ⟨_,by rw [h];omega,by rw [h];omega,rfl⟩
   ·exact ⟨_,by rw [h];omega,by rw [h];omega,rfl⟩
   ·exact ⟨_,by rw [h];omega,by rw [h];omega,rfl⟩
   ·exact ⟨_,by rw [h];omega,by rw [h];omega,rfl⟩
   ·omega
  exact key c (szOf c) 0 HC (by unfold szn;rw [if_pos h16,HC];rfl) (fun w=>rcsize_in (w:=w) c hc0 hc4) (.inl rfl)
 ·obtain ⟨c,hc,HC⟩:∃ c:Int,¬ (0 ≤ c∧c < 4)∧clsOf (n + 1)=c:=by
   rcases clsOf_case (n + 1) (by omega) with ⟨_,h⟩ | ⟨_,_,h⟩ | ⟨_,_,h⟩ | ⟨_,_,h⟩ | ⟨_,h⟩
   ·omega
   ·omega
   ·omega
   ·omega
   ·exact ⟨_,by rw [h];omega,rfl⟩
  exact key c 0 1 HC (by unfold szn;rw [if_neg h16];rfl) (fun w=>rcsize_out (w:=w) c hc) (.inr (by decide))
def cellsX (o:Ob):List Value:=[.int .i64 o.i,.int .i64 o.k,.int .u64 o.a,.int .i64 o.n,.int .u64 o.m,.bool o.c]
def obX (o:Ob):Value:=.agg #[.int .i64 o.i,.int .i64 o.k,.int .u64 o.a,.int .i64 o.n,.int .u64 o.m,.bool o.c]
def flatX (os:List Ob):List Value:=os.flatMap cellsX
structure Xp (w:World) (b o:Nat) (x:Ob):Prop where
 c0:w.cell? ⟨b,o,none⟩=some (.int .i64 x.i)
 c1:w.cell? ⟨b,o + 1,none⟩=some (.int .i64 x.k)
 c2:w.cell? ⟨b,o + 2,none⟩=some (.int .u64 x.a)
 c3:w.cell? ⟨b,o + 3,none⟩=some (.int .i64 x.n)
 c4:w.cell? ⟨b,o + 4,none⟩=some (.int .u64 x.m)
 c5:w.cell? ⟨b,o + 5,none⟩=some (.bool x.c)
structure XRow (w:World) (B:Nat) (A:Option Addr) (os:List Ob):Prop where
 at_:0 < os.length → ∃ b off,A=some ⟨b,off,none⟩∧b < B∧∀ i (hi:i < os.length),Xp w b (off + i * 6) os[i]
theorem XRow.nil (w:World) (B:Nat) (A:Option Addr):XRow w B A []:=⟨fun h=>by simp at h⟩
theorem XRow.below {w w':World} {B:Nat} {A:Option Addr} {os:List Ob} (h:XRow w B A os) (hb:Below B w w'):XRow w' B A os:=⟨fun hl=>by
 obtain ⟨b,off,e,hlt,hc⟩:=h.at_ hl
 refine ⟨b,off,e,hlt,fun i hi=>?_⟩
 have x:=hc i hi
 exact ⟨((bcell hb).1 _ _ hlt).trans x.c0,((bcell hb).1 _ _ hlt).trans x.c1,((bcell hb).1 _ _ hlt).trans x.c2,((bcell hb).1 _ _ hlt).trans x.c3,((bcell hb).1 _ _ hlt).trans x.c4,((bcell hb).1 _ _ hlt).trans x.c5⟩⟩
theorem XRow.more {w:World} {B B':Nat} {A:Option Addr} {os:List Ob} (h:XRow w B A os) (hB:B ≤ B'):XRow w B' A os:=⟨fun hl=>by
 obtain ⟨b,off,e,hlt,hc⟩:=h.at_ hl
 exact ⟨b,off,e,by omega,hc⟩⟩
theorem XRow.later {w w':World} {A:Option Addr} {os:List Ob} (h:XRow w w.heap.size A os) (hb:Below w.heap.size w w'):XRow w' w'.heap.size A os:=(h.below hb).more hb.size
structure Six (w:World) (b:Nat) (v0 v1 v2 v3 v4 v5:Value):Prop where
 c0:w.cell? ⟨b,0,none⟩=some v0
 c1:w.cell? ⟨b,1,none⟩=some v1
 c2:w.cell? ⟨b,2,none⟩=some v2
 c3:w.cell? ⟨b,3,none⟩=some v3
 c4:w.cell? ⟨b,4,none⟩=some v4
 c5:w.cell? ⟨b,5,none⟩=some v5
 f:∀ i,w.frozen? ⟨b,i,none⟩=false
theorem Six.lt {w:World} {b:Nat} {v0 v1 v2 v3 v4 v5:Value} (h:Six w b v0 v1 v2 v3 v4 v5):b < w.heap.size:=World.block_lt_of_cell? w _ h.c0
theorem Six.below {w w':World} {b B:Nat} {v0 v1 v2 v3 v4 v5:Value} (h:Six w b v0 v1 v2 v3 v4 v5) (hb:Below B w w') (hB:b < B):Six w' b v0 v1 v2 v3 v4 v5:=
 ⟨((bcell hb).1 _ _ hB).trans h.c0,((bcell hb).1 _ _ hB).trans h.c1,((bcell hb).1 _ _ hB).trans h.c2,((bcell hb).1 _ _ hB).trans h.c3,((bcell hb).1 _ _ hB).trans h.c4,((bcell hb).1 _ _ hB).trans h.c5,fun i=>((bcell hb).2 _ _ hB).trans (h.f i)⟩
theorem Six.later {w w':World} {b:Nat} {v0 v1 v2 v3 v4 v5:Value} (h:Six w b v0 v1 v2 v3 v4 v5) (hb:Below w.heap.size w w'):Six w' b v0 v1 v2 v3 v4 v5:=h.below hb h.lt
theorem Six.new (w:World) (v0 v1 v2 v3 v4 v5:Value) (t:TypeId):Six (w.alloc (.cells #[v0,v1,v2,v3,v4,v5] t)) w.heap.size v0 v1 v2 v3 v4 v5:=by constructor <;> simp [go_sem]
theorem Six.all {w:World} {b:Nat} {v0 v1 v2 v3 v4 v5:Value} (h:Six w b v0 v1 v2 v3 v4 v5) (u0 u1 u2 u3 u4 u5:Value) :
  Six ((((((w.setCell ⟨b,0,none⟩ u0).setCell ⟨b,1,none⟩ u1).setCell ⟨b,2,none⟩ u2).setCell ⟨b,3,none⟩ u3).setCell ⟨b,4,none⟩ u4).setCell ⟨b,5,none⟩ u5) b u0 u1 u2 u3 u4 u5:=by
 have o:∀ {W:World} {i j:Nat} (x y:Value),W.cell? ⟨b,i,none⟩=some x → j ≠ i → (W.setCell ⟨b,j,none⟩ y).cell? ⟨b,i,none⟩=some x:=fun x y hx hne=>(cO _ _ _ _ (by intro e;injection e with _ e;exact hne e)).trans hx
 have s:∀ {W:World} {i:Nat} {x:Value} (y:Value),W.cell? ⟨b,i,none⟩=some x → (W.setCell ⟨b,i,none⟩ y).cell? ⟨b,i,none⟩=some y:=fun y hx=>World.cell?_setCell_same _ _ _ hx
 have h0:=h.c0;have h1:=h.c1;have h2:=h.c2;have h3:=h.c3;have h4:=h.c4;have h5:=h.c5
 refine ⟨o _ _ (o _ _ (o _ _ (o _ _ (o _ _ (s _ h0) (by decide)) (by decide)) (by decide)) (by decide)) (by decide),
  o _ _ (o _ _ (o _ _ (o _ _ (s _ (o _ _ h1 (by decide))) (by decide)) (by decide)) (by decide)) (by decide),
  o _ _ (o _ _ (o _ _ (s _ (o _ _ (o _ _ h2 (by decide)) (by decide))) (by decide)) (by decide)) (by decide),
  o _ _ (o _ _ (s _ (o _ _ (o _ _ (o _ _ h3 (by decide)) (by decide)) (by decide))) (by decide)) (by decide),
  o _ _ (s _ (o _ _ (o _ _ (o _ _ (o _ _ h4 (by decide)) (by decide)) (by decide)) (by decide))) (by decide),
  s _ (o _ _ (o _ _ (o _ _ (o _ _ (o _ _ h5 (by decide)) (by decide)) (by decide)) (by decide)) (by decide)),fun i=>by simp only [World.frozen?_setCell];exact h.f i⟩
theorem below_six {B b:Nat} {a w:World} (o:Below B a w) (hb:B ≤ b) (u0 u1 u2 u3 u4 u5:Value):Below B a ((((((w.setCell ⟨b,0,none⟩ u0).setCell ⟨b,1,none⟩ u1).setCell ⟨b,2,none⟩ u2).setCell ⟨b,3,none⟩ u3).setCell ⟨b,4,none⟩ u4).setCell ⟨b,5,none⟩ u5):=
 (((((o.setCell (p:=⟨b,0,none⟩) hb u0).setCell (p:=⟨b,1,none⟩) hb u1).setCell (p:=⟨b,2,none⟩) hb u2).setCell (p:=⟨b,3,none⟩) hb u3).setCell (p:=⟨b,4,none⟩) hb u4).setCell (p:=⟨b,5,none⟩) hb u5
theorem res_six2 {fn:Func} {p u:Tmp} (h:fn.results=#[.cell p 156,.tmp u]) {tmps:Array Value} {w:World} {g:Nat} {v0 v1 v2 v3 v4 v5:Value} (hp:tmps.getD p undef=.pointer (some ⟨g,0,none⟩)) (c:Six w g v0 v1 v2 v3 v4 v5) :
  (results fn tmps).run Tryz.prog w=.ok (.tuple #[.agg #[v0,v1,v2,v3,v4,v5],tmps.getD u undef]) w:=by
 rw [results_cell_tmp h,hp]
 simp [go_sem,Result.andThen,c.c0,c.c1,c.c2,c.c3,c.c4,c.c5,asAddr]
def obZ:Ob:=⟨0,0,0,0,0,false,false⟩
def FdE (os:List Ob) (a:Nat) (r:Ob) (b:Bool):Prop:=(b=false∧r=obZ∧∀ o ∈ os,¬ (o.a=a∧o.c=true)) ∨ (b=true∧∃ k,∃ hk:k < os.length,os[k]=r∧r.a=a∧r.c=true∧∀ j (hj:j < k),¬ ((os[j]'(by omega)).a=a∧(os[j]'(by omega)).c=true))
theorem FdE.ex (os:List Ob) (a:Nat):∃ r b,FdE os a r b:=by
 induction os with
 | nil=>exact ⟨_,_,.inl ⟨rfl,rfl,fun o ho=>(by cases ho)⟩⟩
 | cons x t ih=>
  by_cases hx:x.a=a∧x.c=true
  ·exact ⟨x,true,.inr ⟨rfl,0,by simp,rfl,hx.1,hx.2,fun j hj=>absurd hj (Nat.not_lt_zero j)⟩⟩
  ·obtain ⟨r,b,h⟩:=ih
   rcases h with ⟨rfl,rfl,h⟩ | ⟨rfl,k,hk,h1,h2,h3,h4⟩
   ·refine ⟨_,_,.inl ⟨rfl,rfl,fun o ho=>?_⟩⟩
    rcases List.mem_cons.1 ho with rfl | ho
    ·exact hx
    ·exact h o ho
   ·refine ⟨r,true,.inr ⟨rfl,k + 1,by simp;omega,by simpa using h1,h2,h3,fun j hj=>?_⟩⟩
    cases j with
    | zero=>simpa using hx
    | succ j=>simpa using h4 j (by omega)
theorem info_ob6:(Tryz.prog.info? 156).map (fun i=>(i.zero,i.size,i.bytes))=some (some (.agg #[.int .i64 0,.int .i64 0,.int .u64 0,.int .i64 0,.int .u64 0,.bool false]),6,48):=by kernel_rfl
theorem run_append_noneOb {w:World} (ty:TypeId) (v:Value) (n c:Nat) (xs:List Value) (base:Nat) (hown:w.ownsRow base 156 6 v n xs) :
  (Builtin.append_ #[152,152] ty #[v,.slice none 0 c]).run Tryz.prog w=.ok v w:=by
 obtain ⟨i0,hi,hz0,hz1,hz2⟩:=info_parts info_ob6
 obtain ⟨_,⟨rfl,rfl⟩ | ⟨g,cap,cur,rfl,_,hg,hc,hm,_,_⟩⟩:=hown
 ·simp [Builtin.append_,run_underlying Tryz.underlying152,sizeOf,typeInfo,hi,hz1,Builtin.lenOf,Builtin.firstCells,storeCells]
 ·have h1:¬ (9223372036854775807 < (n:Int)):=by unfold maxLen at hm;omega
  have hl:∀ (x:Addr),(loadCells x 0).run Tryz.prog w=.ok #[] w:=fun x=>by simpa using run_loadCells_list (P:=Tryz.prog) w x [] (by simp)
  simp [Builtin.append_,run_underlying Tryz.underlying152,sizeOf,typeInfo,hi,hz1,Builtin.lenOf,Builtin.firstCells,storeCells,hc,hl,h1]
theorem wp_appendOb {w:World} {o:Oper} {a:Act} {K:Act → World → Prop} {Q:Exit → Act → World → Prop} (s x:Operand)
  (ho:o.op=.call { callee:=.builtin .append,args:=#[s,x],argTypes:=#[152,152] })
  (base:Nat) (A:Option Addr) (cap n:Nat) (xs:List Value) (hs:a.eval s=.slice A n cap) (hown:w.ownsRow base 156 6 (.slice A n cap) n xs)
  (Ao:Option Addr) (m c:Nat) (news:List Value) (hx:a.eval x=.slice Ao m c) (hl:news.length=m * 6) (hpos:0 < m → ∃ b off,Ao=some ⟨b,off,none⟩∧∀ j u,news[j]?=some u → w.cell? ⟨b,off + j,none⟩=some u) (h1:∀ u ∈ news,u.oneCell'=true)
  (hsm:n + m ≤ 100000) (hbase:base ≤ w.heap.size)
  (h:∀ A' cap' w',w'.ownsRow base 156 6 (.slice A' (n + m) cap') (n + m) (xs ++ news) → w.grownBy w' (A.map fun a=>a.block) → Below base w w' → (A'=A ∨ A'=some ⟨w.heap.size,0,none⟩) → K (a.put o.dst (.slice A' (n + m) cap')) w') :
  Oper.wp Tryz.prog o a w K Q:=by
 obtain ⟨i0,hi,hz0,hz1,hz2⟩:=info_parts info_ob6
 have key:∃ A' cap' w',(Builtin.append_ #[152,152] o.type #[.slice A n cap,.slice Ao m c]).run Tryz.prog w=.ok (.slice A' (n + m) cap') w'∧w'.ownsRow base 156 6 (.slice A' (n + m) cap') (n + m) (xs ++ news)∧w.grownBy w' (A.map fun a=>a.block)∧Below base w w'∧(A'=A ∨ A'=some ⟨w.heap.size,0,none⟩):=by
  have hob:(Value.slice A n cap).ownBlock=A.map fun a=>a.block:=by cases A <;> rfl
  by_cases hm:0 < m
  ·obtain ⟨b,off,rfl,hc⟩:=hpos hm
   obtain ⟨g,cap',w',h2,h3,h4,h5,_⟩:=run_append_lies (P:=Tryz.prog) w 152 o.type base 156 i0 _ 6 48 Tryz.underlying152 hi hz0 hz1 hz2 rfl (by omega) (.slice A n cap) n xs hown ⟨b,off,none⟩ m c news hl (fun j u hj=>by rw [add_form];exact hc j u hj) h1 hm (by unfold maxLen;omega) (by omega) hbase _ rfl
   refine ⟨_,cap',w',h2,h3,by rw [← hob];exact h4,(Below.refl _ _).grown h4 hbase (fun k hk=>(hown.lt k hk).1),?_⟩
   rcases h5 with h5 | h5
   ·left
    obtain ⟨_,⟨e1,_⟩ | ⟨g',_,_,e1,_⟩⟩:=hown
    ·injection e1 with e1
     subst e1
     cases h5
    ·injection e1 with e1
     subst e1
     injection h5 with h5
     have h5':g'=g:=h5
     rw [h5']
   ·right
    rw [h5]
  ·obtain rfl:m=0:=by omega
   obtain rfl:news=[]:=List.eq_nil_of_length_eq_zero (by omega)
   cases Ao with
   | none=>exact ⟨A,cap,w,run_append_noneOb _ _ n c xs base hown,by simpa using hown,⟨rfl,rfl,rfl,Nat.le_refl _,fun _ _ _=>rfl⟩,Below.refl _ _,.inl rfl⟩
   | some ad=>
    have hl:∀ (x:Addr),(loadCells x 0).run Tryz.prog w=.ok #[] w:=fun x=>by simpa using run_loadCells_list (P:=Tryz.prog) w x [] (by simp)
    have h2:(Builtin.append_ #[152,152] o.type #[.slice A n cap,.slice (some ad) 0 c]).run Tryz.prog w=.ok (.slice A n cap) w:=by
     obtain ⟨_,⟨e1,rfl⟩ | ⟨g,cap',cur,e1,_,hg,hc,hm,_,_⟩⟩:=id hown
     ·injection e1 with e1 _ e3
      subst e1 e3
      simp [Builtin.append_,run_underlying Tryz.underlying152,sizeOf,typeInfo,hi,hz1,Builtin.lenOf,Builtin.firstCells,storeCells,hl]
     ·injection e1 with e1 _ e3
      subst e1 e3
      have h1:¬ (9223372036854775807 < (n:Int)):=by unfold maxLen at hm;omega
      simp [Builtin.append_,run_underlying Tryz.underlying152,sizeOf,typeInfo,hi,hz1,Builtin.lenOf,Builtin.firstCells,storeCells,hc,hl,h1]
    exact ⟨A,cap,w,h2,by simpa using hown,⟨rfl,rfl,rfl,Nat.le_refl _,fun _ _ _=>rfl⟩,Below.refl _ _,.inl rfl⟩
 obtain ⟨A',cap',w',h2,h3,h5,h4,h6⟩:=key
 unfold Oper.wp execOp
 simp only [ho,resolve,invoke,builtin,Sem.run_bind,Sem.run_pure,Result.andThen_ok,List.map_toArray,List.map_cons,List.map_nil,hs,hx,h2]
 exact h A' cap' w' h3 h5 h4 h6
theorem OwnsN.far2 {w:World} {B n cap:Nat} {A:Option Addr} {t:List Nat} (h:OwnsN w B A n cap t) {p:Addr} (hp:p.block < B) (u:Value):OwnsN (w.setCell p u) B A n cap t:=
 ⟨h.len,h.words,h.row_.kept (grown_setp w p u) (.inr (by
  intro e
  have:=(h.row_.lt p.block (by first | exact e | exact e.symm)).1
  omega))⟩
theorem OwnsN.grownLt {w w':World} {B n cap g:Nat} {A:Option Addr} {t:List Nat} (h:OwnsN w B A n cap t) (hg:w.grownBy w' (some g)) (hB:g < B):OwnsN w' B A n cap t:=
 ⟨h.len,h.words,h.row_.kept hg (.inr (by
  intro e
  have:=(h.row_.lt g (by first | exact e | exact e.symm)).1
  omega))⟩
set_option maxHeartbeats 4000000 in
theorem zclean_any {w:World} {B b:Nat} {v:Hv} {h:Hp} (m:WB w B b v h) (hkk:OkH h) {i:Nat} (hi:i < h.l.length) (hs:(nth h.l i).s=false) :
  Calls Tryz.prog 117 #[.pointer (some ⟨b,0,none⟩),.int .i64 (i:Nat)] w fun e w'=>∃ L c,e=.returned (.slice L (usD (nth h.l i)).length c)∧OwnsN w' w.heap.size L (usD (nth h.l i)).length c (usD (nth h.l i))∧(∃ v',WB w' B b v' (clnH h i))∧Below B w w':=by
 have hok:=hkk.framed.spans
 have hw:=hkk.framed.words
 have hin:∀ a ∈ unmA (nth h.l i) (slN (nth h.l i)),a + swd (nth h.l i) ≤ h.ws.length:=fun a ha=>by
  obtain ⟨j,j1,_,_,rfl⟩:=unmA_mem ha
  exact (hkk.slotW hi j1).1
 have hk1:=cl1H_ok hkk hi hs
 have hi1:i < (cl1H h i).l.length:=by rw [(cl1H_like hkk hi).l];exact hi
 have HDR:=Lib.hid fun (w:World) (B b:Nat) (v:Hv) (mm:WB w B b v (cl1H h i)) (A M:Option Addr) (ca cm:Nat)=>zdrop_any mm hk1.framed.spans hk1.framed.pages hi1 (hk1.owned.in_ i hi1).2 (fun j j1 j2=>(hk1.owned.used j (by have:=(hk1.owned.in_ i hi1).2;omega)).2 (.inr ⟨i,hi1,j1,j2⟩)) A M ca cm
 have en:nth (cl1H h i).l i=clnD (nth h.l i):=by rw [cl1H_nth hi,if_pos rfl]
 rw [en] at HDR
 have HCN:Hid ((countTo (clnD (nth h.l i)).aw (nth h.l i).an.toNat=0 → clnH h i=droH (cl1H h i) i)∧(¬ countTo (clnD (nth h.l i)).aw (nth h.l i).an.toNat=0 → clnH h i=cl1H h i)):=Lib.hid ⟨fun e=>by unfold clnH;rw [if_pos e],fun e=>by unfold clnH;rw [if_neg e]⟩
 have HBO:=Lib.hid fun (w:World) (A M:Option Addr) (ca cm:Nat) hA hM=>both_ok (w:=w) (n:=(nth h.l i).an) (A:=A) (C:=M) (ws:=(nth h.l i).aw) (us:=(nth h.l i).mw) ca cm hA hM (hok.at_ hi).a (by have:=(hok.at_ hi).m;rw [(hok.at_ hi).mn,← (hok.at_ hi).an] at this;exact this)
 have HCT:=Lib.hid fun (w:World) (A:Option Addr) (ca:Nat) hr=>count_ok (w:=w) (n:=(nth h.l i).an) (A:=A) (ws:=(clnD (nth h.l i)).aw) ca hr (hok.at_ hi).cln.a
 have HMN:Hid ((nth h.l i).mn=(nth h.l i).an):=Lib.hid (by rw [(hok.at_ hi).mn,(hok.at_ hi).an])
 have HL0:Hid (0 < (clnD (nth h.l i)).aw.length):=Lib.hid (by have:=(hok.at_ hi).cln.aw;omega)
 have HCE:Hid (cl1H h i=⟨clnW h.ws (swd (nth h.l i)) (usD (nth h.l i)) (usD (nth h.l i)).length,h.n,h.us,h.l.set i (clnD (nth h.l i))⟩):=Lib.hid rfl
 unfold Fresh at HBO
 unfold clnD at HDR HCN HCT HL0 HCE
 unfold usD at HCE ⊢
 simp only at HDR HCN HCT HL0 HCE
 clear hk1 hi1 en hkk hs
 obtain ⟨vs,hvs,hS,hAS⟩:=m.s
 obtain ⟨g,hV,hgB,hgl⟩:=m.block hS hi
 have hlen:=hS.len
 have hle:=m.le
 have hbl:=m.lt
 have ok:=hok.at_ hi
 have hil:i < vs.length:=by omega
 have hd:vs[i].d=nth h.l i:=by rw [← hvs];exact (nth_sds vs i hil).symm
 rw [hV] at hS
 have c8:=sp8_of_owns hS.row_ hlen i hi
 rw [hd] at c8
 have hwo:=hS.words _ (List.getElem_mem hil)
 rw [hd] at hwo
 obtain ⟨x,hxx⟩:∃ x,Hid (vs[i]=x):=⟨vs[i],Lib.hid rfl⟩
 rw [hxx.out] at c8 hwo
 have hbg:b ≠ g:=fun e=>hAS.1 (by rw [hV,e])
 rw [Nat.zero_add] at c8
 have HUN:=Lib.hid fun (w:World) (A M:Option Addr) (ca cm:Nat) hA hM=>zunmarked_any (w:=w) (d:=nth h.l i) (A:=A) (M:=M) ca cm ok hA hM
 have HSW:=Lib.hid fun (w:World) (A M:Option Addr) (ca cm:Nat)=>zslotw_any (w:=w) (nth h.l i) A ca M cm (by have:=ok.sized.slots;omega) (by have:=ok.sized.slots;omega)
 obtain ⟨us,hus⟩:∃ us,Hid (unmA (nth h.l i) (slN (nth h.l i))=us):=⟨_,Lib.hid rfl⟩
 rw [hus.out] at HUN hin HCE ⊢
 have hul:Hid (us.length ≤ 8):=Lib.hid (by
  have h1:=unmA_len (nth h.l i) (slN (nth h.l i))
  have h2:=ok.slK
  rw [hus.out] at h1
  omega)
 obtain ⟨z,hz⟩:∃ z,Hid (swd (nth h.l i)=z):=⟨_,Lib.hid rfl⟩
 rw [hz.out] at HSW hin HCE
 have hz64:Hid (z ≤ 64):=Lib.hid (by have:=ok.swd_eq;rw [← hz.out];omega)
 have HC:=Lib.hid fun (w:World) (A:Option Addr) (ca:Nat) (ws:List Nat) (hl:ws.length=h.ws.length) (k:Nat) (hk:k < us.length) (hr:Row w w.heap.size A ws)=>by
  have hmem:us.getD k 0 ∈ us:=by rw [List.getD_eq_getElem?_getD,List.getElem?_eq_getElem hk];exact List.getElem_mem hk
  have h1:=hin _ hmem
  have C:=clear_any (w:=w) (A:=A) (ws:=ws) ca (us.getD k 0) z hr (by omega) (by unfold W64;omega) (by have:=hz64.out;unfold W64;omega)
  have e1:resA ws (us.getD k 0 + z ≤ ws.length) (overTo ws (us.getD k 0) (fun _=>0) z)=overTo ws (us.getD k 0) (fun _=>0) z∧errA ws (us.getD k 0 + z ≤ ws.length)=0:=resA_in (by omega) (by omega)
  rw [e1.1,e1.2] at C
  exact C
 unfold FreshA at HC
 have HM:=Lib.hid m
 obtain ⟨b0,b1,b2,b3,f0,f1,f2,f3⟩:=id m.box
 rw [hV] at b3
 obtain ⟨d,hdd⟩:∃ d,Hid (nth h.l i=d):=⟨_,Lib.hid rfl⟩
 rw [hdd.out] at HUN HSW c8 hwo HDR HCN HBO HCT HMN HL0 HCE
 obtain ⟨df,dp,dz,dan,daw,dmn,dmw,ds⟩:=d
 obtain ⟨xd,xA,xca,xM,xcm⟩:=x
 unfold spv at HUN HSW
 simp only at HUN HSW c8 hwo HDR HCN HBO HCT HMN HL0 HCE
 have hA:=hwo.1.row
 have hM:=hwo.2.row
 have HC8:=Lib.hid c8
 obtain ⟨c0,c1,c2,c3,c4,c5,c6,c7⟩:=c8
 clear m hS hok ok hwo hd hlen hin
 have i0:(0:Int) ≤ (i:Int):=by omega
 have i1:(i:Int) < (h.l.length:Int):=by omega
 go_enter Tryz.func117,Tryz.ntmps117
 go_wp2_with fail
 go_at_call 192
 refine (HUN.out _ _ _ _ _ (hA.later bX) (hM.later bX)).mono ?_
 rintro e w1 ⟨L,c,rfl,hO1,hb_w1⟩
 have hb1:Below w.heap.size w w1:=bX
 have hs1:=hb1.size
 have hm1:=HM.out.later hb1
 have h81:=HC8.out.later hb1
 have hz63:=hz64.out
 have hul8:=hul.out
 have HVS:=Lib.hid hvs
 have HV:=Lib.hid hV
 clear c0 c1 c2 c3 c4 c5 c6 c7 b0 b1 b2 b3 f0 f1 f2 f3 hb_w1 hus hz hvs hV
 go_wp2_with fail
 have e0:clnW h.ws z us 0=h.ws:=rfl
 go_loopw [24] (fun ii wr=>∃ (k:Nat) (A':Option Addr) (ca':Nat),ii=.int .i64 (k:Nat)∧k ≤ us.length∧WB wr B b ⟨A',ca',v.U,v.cu,v.V,v.cv⟩ ⟨clnW h.ws z us k,h.n,h.us,h.l⟩∧Sp8 wr g (i * 8) ⟨df,dp,dz,dan,daw,dmn,dmw,ds⟩ xA xca xM xcm∧OwnsN wr w.heap.size L us.length c us∧w.heap.size ≤ wr.heap.size∧Below B w wr) (fun ii _=>us.length - (intOf ii).toNat)
 case atStart=>exact ⟨0,v.A,v.ca,rfl,Nat.zero_le _,hm1,h81,hO1,hs1,hb1.mono (by omega)⟩
 case round=>
  obtain ⟨k,A',ca',rfl,hk,hmr,h8r,hOr,hsr,hbr⟩:=hrel
  by_cases hlt:k < us.length
  ·obtain ⟨gL,hLe,hL1,hL2,hL3⟩:=hOr.own.at_ (show 0 < us.length by omega)
   obtain ⟨l0,lf⟩:=hL3 k hlt
   subst hLe
   obtain ⟨b0,b1,b2,b3,f0,f1,f2,f3⟩:=id hmr.box
   obtain ⟨c0,c1,c2,c3,c4,c5,c6,c7⟩:=id h8r
   have hAr:Row wr wr.heap.size A' (clnW h.ws z us k):=hmr.hm.a
   have hlW:=clnW_len h.ws z us k
   have HCk:=Lib.hid fun (w:World) (A:Option Addr) (ca:Nat) hr=>HC.out w A ca (clnW h.ws z us k) hlW k hlt hr
   have HW1:Hid (clnW h.ws z us (k + 1)=overTo (clnW h.ws z us k) (us.getD k 0) (fun _=>0) z):=Lib.hid rfl
   obtain ⟨Wk,hWk⟩:∃ W,Hid (clnW h.ws z us k=W):=⟨_,Lib.hid rfl⟩
   rw [hWk.out] at HCk HW1 b0 hmr hAr hlW
   have hgd:us.getD k 0=us[k]:=by rw [List.getD_eq_getElem?_getD,List.getElem?_eq_getElem hlt];rfl
   obtain ⟨ak,hak⟩:∃ a,Hid (us[k]=a):=⟨_,Lib.hid rfl⟩
   rw [hgd,hak.out] at HCk HW1 l0
   clear hgd
   have hbl2:=hmr.lt
   have hg2:=h8r.lt
   have HMR:=Lib.hid hmr
   have H8R:=Lib.hid h8r
   have HOR:=Lib.hid hOr
   have HBR:=Lib.hid hbr
   clear hL3 hmr h8r hOr hbr hlW b1 b2 b3 f1 f2 f3 hWk hak e0 hAS hul8
   have HK1:Hid (k + 1 ≤ us.length):=Lib.hid (by omega)
   have j0:(0:Int) ≤ (k:Int):=by omega
   have j1:(k:Int) < (us.length:Int):=by omega
   go_wp2_with fail
   refine wp_region_held_drew (S:=(fun X:World=>X.cell? ⟨g,i * 8,none⟩=some (.int .i64 df)∧X.cell? ⟨g,i * 8 + 1,none⟩=some (.int .i64 dp)∧X.cell? ⟨g,i * 8 + 2,none⟩=some (.int .i64 dz)∧X.cell? ⟨g,i * 8 + 3,none⟩=some (.int .i64 dan)∧X.cell? ⟨g,i * 8 + 4,none⟩=some (.slice xA daw.length xca)∧X.cell? ⟨g,i * 8 + 5,none⟩=some (.int .i64 dmn)∧X.cell? ⟨g,i * 8 + 6,none⟩=some (.slice xM dmw.length xcm)∧X.cell? ⟨g,i * 8 + 7,none⟩=some (.bool ds))) (by kernel_rfl) ?_ (fun hHeld=>?_)
   ·(try dsimp only);refine ⟨?_,?_,?_,?_,?_,?_,?_,?_⟩ <;> first | assumption | (simp [go_sem];done) | exact (World.cell?_alloc_lt _ _ ⟨_,_,_⟩ lX).trans (by assumption) | exact (cO _ ⟨_,_,_⟩ ⟨_,_,_⟩ _ (fun e2=>hbg (by injection e2))).trans (by assumption)
   refine tY 0 ?_
   try simp only [Act.put,qZ]
   refine tY 1 ?_
   try simp only [Act.put,qZ]
   refine tY 2 ?_
   try simp only [Act.put,qZ]
   refine tY 3 ?_
   try simp only [Act.put,qZ]
   refine tY 4 ?_
   try simp only [Act.put,qZ]
   refine tY 6 ?_
   try simp only [Act.put,qZ]
   refine tY 7 ?_
   try simp only [Act.put,qZ]
   refine tY 8 ?_
   try simp only [Act.put,qZ]
   refine tY 9 ?_
   try simp only [Act.put,qZ]
   refine wpAnyH_ready (rs:=[5,10]) (by kernel_rfl) (by simp) ?_
   refine AllReadyH.cons rfl (fun K hK=>?_) (AllReadyH.cons rfl (fun K hK=>?_) AllReadyH.nil)
   ·try simp only [qZ]
    go_simp
    try go_wp2_with fail
    refine hK.out _ _ ?_ (fun hHeld=>?_)
    ·(try dsimp only);refine ⟨?_,?_,?_,?_,?_,?_,?_,?_⟩ <;> first | assumption | (simp [go_sem];done) | exact (World.cell?_alloc_lt _ _ ⟨_,_,_⟩ lX).trans (by assumption) | exact (cO _ ⟨_,_,_⟩ ⟨_,_,_⟩ _ (fun e2=>hbg (by injection e2))).trans (by assumption)
    clear hK K
    try simp only [Act.put,qZ]
    refine tR 10 fun K hK=>?_
    try simp only [qZ]
    go_simp
    go_at_call 194
    refine (HSW.out _ _ _ _ _).mono ?_
    rintro e w2 ⟨rfl,hb_w2⟩
    have hs_w2:wr.heap.size ≤ w2.heap.size:=hb_w2.size
    have p2:w2.cell? ⟨b,0,none⟩=some (.slice A' Wk.length ca'):=(hb_w2.cell lX).trans kY
    have q2:w2.frozen? ⟨b,0,none⟩=false:=((bcell hb_w2).2 _ _ lX).trans kY
    have mw20:w2.cell? ⟨g,i * 8,none⟩=some (.int .i64 df):=cX hb_w2
    have mw21:w2.cell? ⟨g,i * 8 + 1,none⟩=some (.int .i64 dp):=cX hb_w2
    have mw22:w2.cell? ⟨g,i * 8 + 2,none⟩=some (.int .i64 dz):=cX hb_w2
    have mw23:w2.cell? ⟨g,i * 8 + 3,none⟩=some (.int .i64 dan):=cX hb_w2
    have mw24:w2.cell? ⟨g,i * 8 + 4,none⟩=some (.slice xA daw.length xca):=cX hb_w2
    have mw25:w2.cell? ⟨g,i * 8 + 5,none⟩=some (.int .i64 dmn):=cX hb_w2
    have mw26:w2.cell? ⟨g,i * 8 + 6,none⟩=some (.slice xM dmw.length xcm):=cX hb_w2
    have mw27:w2.cell? ⟨g,i * 8 + 7,none⟩=some (.bool ds):=cX hb_w2
    try go_wp2_with fail
    refine hK.out _ _ ?_ (fun hHeld=>?_)
    ·(try dsimp only);refine ⟨?_,?_,?_,?_,?_,?_,?_,?_⟩ <;> first | assumption | (simp [go_sem];done) | exact (World.cell?_alloc_lt _ _ ⟨_,_,_⟩ lX).trans (by assumption) | exact (cO _ ⟨_,_,_⟩ ⟨_,_,_⟩ _ (fun e2=>hbg (by injection e2))).trans (by assumption)
    clear hK K
    try simp only [Act.put,qZ]
    refine tR 11 fun K hK=>?_
    try simp only [qZ]
    go_simp
    go_at_call 193
    refine (HCk.out _ _ _ (hAr.later bX)).mono ?_
    rintro e w3 ⟨A3,c3',rfl,⟨o3,hc3⟩,hb_w3⟩
    have hs_w3:w2.heap.size ≤ w3.heap.size:=hb_w3.size
    have p3:w3.cell? ⟨b,0,none⟩=some (.slice A' Wk.length ca'):=(hb_w3.cell lX).trans kY
    have q3:w3.frozen? ⟨b,0,none⟩=false:=((bcell hb_w3).2 _ _ lX).trans kY
    have mw30:w3.cell? ⟨g,i * 8,none⟩=some (.int .i64 df):=cX hb_w3
    have mw31:w3.cell? ⟨g,i * 8 + 1,none⟩=some (.int .i64 dp):=cX hb_w3
    have mw32:w3.cell? ⟨g,i * 8 + 2,none⟩=some (.int .i64 dz):=cX hb_w3
    have mw33:w3.cell? ⟨g,i * 8 + 3,none⟩=some (.int .i64 dan):=cX hb_w3
    have mw34:w3.cell? ⟨g,i * 8 + 4,none⟩=some (.slice xA daw.length xca):=cX hb_w3
    have mw35:w3.cell? ⟨g,i * 8 + 5,none⟩=some (.int .i64 dmn):=cX hb_w3
    have mw36:w3.cell? ⟨g,i * 8 + 6,none⟩=some (.slice xM dmw.length xcm):=cX hb_w3
    have mw37:w3.cell? ⟨g,i * 8 + 7,none⟩=some (.bool ds):=cX hb_w3
    try go_wp2_with fail
    refine hK.out _ _ ?_ (fun hHeld=>?_)
    ·(try dsimp only);refine ⟨?_,?_,?_,?_,?_,?_,?_,?_⟩ <;> first | assumption | (simp [go_sem];done) | exact (World.cell?_alloc_lt _ _ ⟨_,_,_⟩ lX).trans (by assumption) | exact (cO _ ⟨_,_,_⟩ ⟨_,_,_⟩ _ (fun e2=>hbg (by injection e2))).trans (by assumption)
    clear hK K
    try simp only [Act.put,qZ]
    refine tY 12 ?_
    try simp only [Act.put,qZ]
    refine tY 13 ?_
    try simp only [Act.put,qZ]
    refine tY 14 ?_
    try simp only [Act.put,qZ]
    refine tY 15 ?_
    try simp only [Act.put,qZ]
    refine tY 16 ?_
    try simp only [Act.put,qZ]
    refine tY 17 ?_
    try simp only [Act.put,qZ]
    refine tR 18 fun K hK=>?_
    try simp only [qZ]
    go_simp
    try go_wp2_with fail
    refine hK.out _ _ ?_ (fun hHeld=>?_)
    ·(try dsimp only);refine ⟨?_,?_,?_,?_,?_,?_,?_,?_⟩ <;> first | assumption | (simp [go_sem];done) | exact (World.cell?_alloc_lt _ _ ⟨_,_,_⟩ lX).trans (by assumption) | exact (cO _ ⟨_,_,_⟩ ⟨_,_,_⟩ _ (fun e2=>hbg (by injection e2))).trans (by assumption)
    clear hK K
    try simp only [Act.put,qZ]
    refine wpAnyH_done (by kernel_rfl) ?_ _
    have hbw3:Below wr.heap.size wr w3:=bX
    have hm4:=(HMR.out.later hbw3).setA (ca:=c3') (o3.mono (B':=B) (by first | omega | (simp only [zN,zD,zA];omega))) (o3.apt (b:=b) (by first | omega | (simp only [zN,zD,zA];omega)))
    have h84:=(H8R.out.later hbw3).far (p:=⟨b,0,none⟩) hbg (.slice A3 (overTo Wk ak (fun _=>0) z).length c3')
    have hO4:=(HOR.out.later hbw3).far2 (p:=⟨b,0,none⟩) hbl (.slice A3 (overTo Wk ak (fun _=>0) z).length c3')
    have hb4:Below B w (w3.setCell ⟨b,0,none⟩ (.slice A3 (overTo Wk ak (fun _=>0) z).length c3')):=(HBR.out.trans (hbw3.mono (by omega))).setCell (p:=⟨b,0,none⟩) hle _
    have hs4:w.heap.size ≤ (w3.setCell ⟨b,0,none⟩ (.slice A3 (overTo Wk ak (fun _=>0) z).length c3')).heap.size:=by rw [World.size_setCell];omega
    rw [← HW1.out] at hm4 h84 hO4 hb4 hs4
    have R4:=Lib.hid (And.intro hm4 (And.intro h84 (And.intro hO4 (And.intro hs4 hb4))))
    clear hm4 h84 hO4 hs4 hb4 o3 hHeld
    rw [← HW1.out]
    have hk100:k ≤ 100:=(by have:=hul.out;omega)
    go_wp2
    go_roundw
    case rel=>exact ⟨k + 1,A3,c3',by go_num,HK1.out,R4.out⟩
    case measure=>(have hk1:=HK1.out;simp [intOf];omega)
   ·try simp only [qZ]
    go_simp
    go_at_call 194
    refine (HSW.out _ _ _ _ _).mono ?_
    rintro e w2 ⟨rfl,hb_w2⟩
    have hs_w2:wr.heap.size ≤ w2.heap.size:=hb_w2.size
    have p2:w2.cell? ⟨b,0,none⟩=some (.slice A' Wk.length ca'):=(hb_w2.cell lX).trans kY
    have q2:w2.frozen? ⟨b,0,none⟩=false:=((bcell hb_w2).2 _ _ lX).trans kY
    have mw20:w2.cell? ⟨g,i * 8,none⟩=some (.int .i64 df):=cX hb_w2
    have mw21:w2.cell? ⟨g,i * 8 + 1,none⟩=some (.int .i64 dp):=cX hb_w2
    have mw22:w2.cell? ⟨g,i * 8 + 2,none⟩=some (.int .i64 dz):=cX hb_w2
    have mw23:w2.cell? ⟨g,i * 8 + 3,none⟩=some (.int .i64 dan):=cX hb_w2
    have mw24:w2.cell? ⟨g,i * 8 + 4,none⟩=some (.slice xA daw.length xca):=cX hb_w2
    have mw25:w2.cell? ⟨g,i * 8 + 5,none⟩=some (.int .i64 dmn):=cX hb_w2
    have mw26:w2.cell? ⟨g,i * 8 + 6,none⟩=some (.slice xM dmw.length xcm):=cX hb_w2
    have mw27:w2.cell? ⟨g,i * 8 + 7,none⟩=some (.bool ds):=cX hb_w2
    try go_wp2_with fail
    refine hK.out _ _ ?_ (fun hHeld=>?_)
    ·(try dsimp only);refine ⟨?_,?_,?_,?_,?_,?_,?_,?_⟩ <;> first | assumption | (simp [go_sem];done) | exact (World.cell?_alloc_lt _ _ ⟨_,_,_⟩ lX).trans (by assumption) | exact (cO _ ⟨_,_,_⟩ ⟨_,_,_⟩ _ (fun e2=>hbg (by injection e2))).trans (by assumption)
    clear hK K
    try simp only [Act.put,qZ]
    refine tR 5 fun K hK=>?_
    try simp only [qZ]
    go_simp
    try go_wp2_with fail
    refine hK.out _ _ ?_ (fun hHeld=>?_)
    ·(try dsimp only);refine ⟨?_,?_,?_,?_,?_,?_,?_,?_⟩ <;> first | assumption | (simp [go_sem];done) | exact (World.cell?_alloc_lt _ _ ⟨_,_,_⟩ lX).trans (by assumption) | exact (cO _ ⟨_,_,_⟩ ⟨_,_,_⟩ _ (fun e2=>hbg (by injection e2))).trans (by assumption)
    clear hK K
    try simp only [Act.put,qZ]
    refine tR 11 fun K hK=>?_
    try simp only [qZ]
    go_simp
    go_at_call 193
    refine (HCk.out _ _ _ (hAr.later bX)).mono ?_
    rintro e w3 ⟨A3,c3',rfl,⟨o3,hc3⟩,hb_w3⟩
    have hs_w3:w2.heap.size ≤ w3.heap.size:=hb_w3.size
    have p3:w3.cell? ⟨b,0,none⟩=some (.slice A' Wk.length ca'):=(hb_w3.cell lX).trans kY
    have q3:w3.frozen? ⟨b,0,none⟩=false:=((bcell hb_w3).2 _ _ lX).trans kY
    have mw30:w3.cell? ⟨g,i * 8,none⟩=some (.int .i64 df):=cX hb_w3
    have mw31:w3.cell? ⟨g,i * 8 + 1,none⟩=some (.int .i64 dp):=cX hb_w3
    have mw32:w3.cell? ⟨g,i * 8 + 2,none⟩=some (.int .i64 dz):=cX hb_w3
    have mw33:w3.cell? ⟨g,i * 8 + 3,none⟩=some (.int .i64 dan):=cX hb_w3
    have mw34:w3.cell? ⟨g,i * 8 + 4,none⟩=some (.slice xA daw.length xca):=cX hb_w3
    have mw35:w3.cell? ⟨g,i * 8 + 5,none⟩=some (.int .i64 dmn):=cX hb_w3
    have mw36:w3.cell? ⟨g,i * 8 + 6,none⟩=some (.slice xM dmw.length xcm):=cX hb_w3
    have mw37:w3.cell? ⟨g,i * 8 + 7,none⟩=some (.bool ds):=cX hb_w3
    try go_wp2_with fail
    refine hK.out _ _ ?_ (fun hHeld=>?_)
    ·(try dsimp only);refine ⟨?_,?_,?_,?_,?_,?_,?_,?_⟩ <;> first | assumption | (simp [go_sem];done) | exact (World.cell?_alloc_lt _ _ ⟨_,_,_⟩ lX).trans (by assumption) | exact (cO _ ⟨_,_,_⟩ ⟨_,_,_⟩ _ (fun e2=>hbg (by injection e2))).trans (by assumption)
    clear hK K
    try simp only [Act.put,qZ]
    refine tY 12 ?_
    try simp only [Act.put,qZ]
    refine tY 13 ?_
    try simp only [Act.put,qZ]
    refine tY 14 ?_
    try simp only [Act.put,qZ]
    refine tY 15 ?_
    try simp only [Act.put,qZ]
    refine tY 16 ?_
    try simp only [Act.put,qZ]
    refine tY 17 ?_
    try simp only [Act.put,qZ]
    refine tR 18 fun K hK=>?_
    try simp only [qZ]
    go_simp
    try go_wp2_with fail
    refine hK.out _ _ ?_ (fun hHeld=>?_)
    ·(try dsimp only);refine ⟨?_,?_,?_,?_,?_,?_,?_,?_⟩ <;> first | assumption | (simp [go_sem];done) | exact (World.cell?_alloc_lt _ _ ⟨_,_,_⟩ lX).trans (by assumption) | exact (cO _ ⟨_,_,_⟩ ⟨_,_,_⟩ _ (fun e2=>hbg (by injection e2))).trans (by assumption)
    clear hK K
    try simp only [Act.put,qZ]
    refine wpAnyH_done (by kernel_rfl) ?_ _
    have hbw3:Below wr.heap.size wr w3:=bX
    have hm4:=(HMR.out.later hbw3).setA (ca:=c3') (o3.mono (B':=B) (by first | omega | (simp only [zN,zD,zA];omega))) (o3.apt (b:=b) (by first | omega | (simp only [zN,zD,zA];omega)))
    have h84:=(H8R.out.later hbw3).far (p:=⟨b,0,none⟩) hbg (.slice A3 (overTo Wk ak (fun _=>0) z).length c3')
    have hO4:=(HOR.out.later hbw3).far2 (p:=⟨b,0,none⟩) hbl (.slice A3 (overTo Wk ak (fun _=>0) z).length c3')
    have hb4:Below B w (w3.setCell ⟨b,0,none⟩ (.slice A3 (overTo Wk ak (fun _=>0) z).length c3')):=(HBR.out.trans (hbw3.mono (by omega))).setCell (p:=⟨b,0,none⟩) hle _
    have hs4:w.heap.size ≤ (w3.setCell ⟨b,0,none⟩ (.slice A3 (overTo Wk ak (fun _=>0) z).length c3')).heap.size:=by rw [World.size_setCell];omega
    rw [← HW1.out] at hm4 h84 hO4 hb4 hs4
    have R4:=Lib.hid (And.intro hm4 (And.intro h84 (And.intro hO4 (And.intro hs4 hb4))))
    clear hm4 h84 hO4 hs4 hb4 o3 hHeld
    rw [← HW1.out]
    have hk100:k ≤ 100:=(by have:=hul.out;omega)
    go_wp2
    go_roundw
    case rel=>exact ⟨k + 1,A3,c3',by go_num,HK1.out,R4.out⟩
    case measure=>(have hk1:=HK1.out;simp [intOf];omega)
  ·obtain rfl:k=us.length:=by omega
   clear h8r
   obtain ⟨g2,A2,ca2,M2,cm2,hV2,_,hgl2,hbg2,s8,oA,oM,fz,f00,hf00⟩:=hmr.span hi
   obtain rfl:g2=g:=by
    have:=hV2.symm.trans HV.out
    injection this with this
    injection this with this
   have hD:Hid (nth h.l i=⟨df,dp,dz,dan,daw,dmn,dmw,ds⟩):=hdd
   simp only at s8 oA oM
   rw [hD.out] at s8 oA oM
   obtain rfl:dmn=dan:=HMN.out
   obtain ⟨c0,c1,c2,c3,c4,c5,c6,c7⟩:=id s8
   simp only at oA oM c0 c1 c2 c3 c4 c5 c6 c7
   have hA2:=oA.row
   have hM2:=oM.row
   have q3:=fz (i * 8 + 3)
   have q4:=fz (i * 8 + 4)
   have q7:=fz (i * 8 + 7)
   have HW:=Lib.hid hmr
   have HO:=Lib.hid hOr
   have HBr:=Lib.hid hbr
   clear hmr hOr hbr s8 hf00 c0 c1 c2 c7 q7
   obtain ⟨bt,hbt⟩:∃ x,Hid (bothTo daw dmw dmw.length=x):=⟨_,Lib.hid rfl⟩
   rw [hbt.out] at HBO HCT HDR HCN HCE HL0
   unfold spv at HDR
   simp only at HDR
   go_wp2_with fail
   go_region_with (go_at_call 195;refine (HBO.out _ _ _ _ _ (hA2.later bX) (hM2.later bX)).mono ?_;rintro e w5 ⟨A5,ca5,rfl,o5,hb_w5⟩;have p3:w5.cell? ⟨g2,i * 8 + 3,none⟩=some (.int .i64 dmn):=cX hb_w5;have q3:w5.frozen? ⟨g2,i * 8 + 3,none⟩=false:=((bcell hb_w5).2 _ _ lX).trans (by first | assumption | (simp [go_sem];done) | exact (World.frozen?_alloc_past _ _ _ lX).trans (by assumption));have p4:w5.cell? ⟨g2,i * 8 + 4,none⟩=some (.slice A2 daw.length ca2):=cX hb_w5;have q4:w5.frozen? ⟨g2,i * 8 + 4,none⟩=false:=((bcell hb_w5).2 _ _ lX).trans (by first | assumption | (simp [go_sem];done) | exact (World.frozen?_alloc_past _ _ _ lX).trans (by assumption)))
   all_goals
    have hbw:Below wr.heap.size wr w5:=bX
    have m5:=HW.out.later hbw
    have hs5:=hbw.size
    have o5':Own w5 B A5 bt:=o5.mono (by first | omega | (simp only [zN,zD,zA];omega))
    have m6:=m5.setL_ (ca':=ca5) hV2 (i:=i) hi o5' (o5.apt (b:=b) (by first | omega | (simp only [zN,zD,zA];omega))) (o5.apt (b:=g2) (by first | omega | (simp only [zN,zD,zA];omega))) HL0.out
    simp only at m6
    rw [hD.out] at m6
    simp only at m6
    have hO6:=((HO.out.later hbw).far2 (p:=⟨g2,i * 8 + 3,none⟩) hgl (.int .i64 dmn)).far2 (p:=⟨g2,i * 8 + 4,none⟩) hgl (.slice A5 bt.length ca5)
    have hb6:Below B w ((w5.setCell ⟨g2,i * 8 + 3,none⟩ (.int .i64 dmn)).setCell ⟨g2,i * 8 + 4,none⟩ (.slice A5 bt.length ca5)):=((HBr.out.trans (hbw.mono (by omega))).setCell (p:=⟨g2,i * 8 + 3,none⟩) hgB (.int .i64 dmn)).setCell (p:=⟨g2,i * 8 + 4,none⟩) hgB (.slice A5 bt.length ca5)
    have hs6:w.heap.size ≤ ((w5.setCell ⟨g2,i * 8 + 3,none⟩ (.int .i64 dmn)).setCell ⟨g2,i * 8 + 4,none⟩ (.slice A5 bt.length ca5)).heap.size:=by simp only [zS];omega
    clear hbw m5 hs5 o5 o5' hb_w5 p3 p4 q3 q4 c3 c4 c5 c6 hA2 hM2 oA oM fz
    have m6':WB ((w5.setCell ⟨g2,i * 8 + 3,none⟩ (.int .i64 dmn)).setCell ⟨g2,i * 8 + 3 + 1,none⟩ (.slice A5 bt.length ca5)) B b _ _:=m6
    have hO6':OwnsN ((w5.setCell ⟨g2,i * 8 + 3,none⟩ (.int .i64 dmn)).setCell ⟨g2,i * 8 + 3 + 1,none⟩ (.slice A5 bt.length ca5)) w.heap.size L us.length c us:=hO6
    have hb6':Below B w ((w5.setCell ⟨g2,i * 8 + 3,none⟩ (.int .i64 dmn)).setCell ⟨g2,i * 8 + 3 + 1,none⟩ (.slice A5 bt.length ca5)):=hb6
    have hs6':w.heap.size ≤ ((w5.setCell ⟨g2,i * 8 + 3,none⟩ (.int .i64 dmn)).setCell ⟨g2,i * 8 + 3 + 1,none⟩ (.slice A5 bt.length ca5)).heap.size:=hs6
    clear m6 hO6 hb6 hs6
    generalize ((w5.setCell ⟨g2,i * 8 + 3,none⟩ (.int .i64 dmn)).setCell ⟨g2,i * 8 + 3 + 1,none⟩ (.slice A5 bt.length ca5))=w6 at *
    have hi6:i < (h.l.set i ⟨df,dp,dz,dmn,bt,dmn,dmw,ds⟩).length:=by rw [List.length_set];exact hi
    obtain ⟨g3,A3,ca3,M3,cm3,hV3,_,hgl3,hbg3,s3,oA3,oM3,fz3,f03,hf03⟩:=m6'.span hi6
    obtain rfl:g3=g2:=by
     have:=hV3.symm.trans hV2
     injection this with this
     injection this with this
    have en3:nth (h.l.set i ⟨df,dp,dz,dmn,bt,dmn,dmw,ds⟩) i=⟨df,dp,dz,dmn,bt,dmn,dmw,ds⟩:=by rw [nth_set _ _ _ _ hi,if_pos rfl]
    have m7:=m6'.set8 hV2 (i:=i) (j:=7) (u:=.bool true) hi6 (by omega) ⟨df,dp,dz,dmn,bt,dmn,dmw,true⟩ (by show bt=_;unfold setL;simp only;rw [en3]) (by show dmw=_;unfold setL;simp only;rw [en3]) (fun A ca M cm=>by unfold setL;simp only;rw [en3];rfl)
    unfold setL at m7 s3 oA3 oM3
    simp only at m7 s3 oA3 oM3
    rw [en3] at s3 oA3 oM3
    rw [List.set_set,← HCE.out] at m7
    obtain ⟨c0,c1,c2,c3,c4,c5,c6,c7⟩:=id s3
    simp only at oA3 oM3 c0 c1 c2 c3 c4 c5 c6 c7
    have q7:=fz3 (i * 8 + 7)
    have oA7:=(oA3.oth (p:=⟨g3,i * 8 + 7,none⟩) (oA3.apt_span hf03) (.bool true)).row
    have O7:=hO6'.far2 (p:=⟨g3,i * 8 + 7,none⟩) hgl (.bool true)
    have b7:Below B w (w6.setCell ⟨g3,i * 8 + 7,none⟩ (.bool true)):=hb6'.setCell (p:=⟨g3,i * 8 + 7,none⟩) hgB _
    have s7:w.heap.size ≤ (w6.setCell ⟨g3,i * 8 + 7,none⟩ (.bool true)).heap.size:=by rw [World.size_setCell];exact hs6'
    have HI7:Hid (i < (cl1H h i).l.length):=Lib.hid (by rw [HCE.out];show i < (h.l.set i _).length;rw [List.length_set];exact hi)
    have HE7:Hid (nth (cl1H h i).l i=⟨df,dp,dz,dmn,bt,dmn,dmw,true⟩):=Lib.hid (by rw [HCE.out];show nth (h.l.set i _) i=_;rw [nth_set _ _ _ _ hi,if_pos rfl])
    have M7:=Lib.hid m7
    clear m6' hO6' hb6' s3 oA3 oM3 fz3 f03 hf03 en3 m7 HBO HCE
    go_wp2_with fail
    go_at_call 61
    refine (HCT.out _ _ _ (by exact oA7)).mono ?_
    rintro e w8 ⟨rfl,hb_w8⟩
    have m8:=M7.out.later hb_w8
    have O8:=O7.later hb_w8
    have b8:Below B w w8:=b7.trans (hb_w8.mono (by omega))
    have hs8:=hb_w8.size
    clear M7 O7 oA7 c0 c1 c2 c3 c4 c5 c6 c7 q7
    by_cases hc0:countTo bt dmn.toNat=0
    ·have d0:(((countTo bt dmn.toNat:Nat):Int) == 0)=true:=by rw [hc0];rfl
     have HC0:=Lib.hid hc0
     clear hc0
     obtain ⟨g8,A8,ca8,M8,cm8,hV8,_,_,_,s8,_,_,_,_,_⟩:=m8.span HI7.out
     obtain rfl:g8=g3:=by
      have:=hV8.symm.trans hV2
      injection this with this
      injection this with this
     rw [HE7.out] at s8
     obtain ⟨c0,c1,c2,c3,c4,c5,c6,c7⟩:=id s8
     simp only at c0 c1 c2 c3 c4 c5 c6 c7
     go_wp2_with fail
     go_at_call 196
     refine (HDR.out _ _ _ _ (by exact m8) A8 M8 ca8 cm8).mono ?_
     rintro e w9 ⟨rfl,⟨v9,m9⟩,hb_w9,hg9⟩
     have O9:=O8.grownLt hg9 hbl
     have b9:Below B w w9:=b8.trans hb_w9
     go_wp2
     go_ret
     exact ⟨_,_,rfl,O9,(by rw [HCN.out.1 HC0.out];exact ⟨_,m9⟩),b9⟩
    ·have d0:(((countTo bt dmn.toNat:Nat):Int) == 0)=false:=by simp;omega
     have HC0:=Lib.hid hc0
     clear hc0
     go_wp2
     go_ret
     exact ⟨_,_,rfl,O8,(by rw [HCN.out.2 HC0.out];exact ⟨_,m8⟩),b8⟩
def FreshHw (w:World) (h:Hp) (t:List Nat) (y:Int) (e:Ending) (w':World):Prop:=∃ v A c,e=.returned (.tuple #[hpV v h,.slice A t.length c,.int .i64 y])∧OwnsH w' w.heap.size v h∧OwnsN w' w.heap.size A t.length c t∧Below w.heap.size w w'
theorem OwnsN.all {w:World} {B b n cap:Nat} {A:Option Addr} {t:List Nat} (o:OwnsN w B A n cap t) (hb:b < B) (u0 u1 u2 u3:Value):OwnsN ((((w.setCell ⟨b,0,none⟩ u0).setCell ⟨b,1,none⟩ u1).setCell ⟨b,2,none⟩ u2).setCell ⟨b,3,none⟩ u3) B A n cap t:=
 (((o.far2 (p:=⟨b,0,none⟩) hb u0).far2 (p:=⟨b,1,none⟩) hb u1).far2 (p:=⟨b,2,none⟩) hb u2).far2 (p:=⟨b,3,none⟩) hb u3
section
variable {w:World} {v:Hv} {h:Hp}
set_option maxHeartbeats 4000000 in
theorem zcleanH_any (hz:Sizes w) (hM:HM w w.heap.size v h) (hl:h.l.length ≤ 17592186044416) (hw:h.ws.length ≤ 17592186044416) (hnil:v.V=none → v.cv=0) (f:Int) (h':Hp) (t:List Nat) (y:Int) (hE:ClnE h f h' t y) :
  Calls Tryz.prog 40 #[hpV v h,.int .i64 f] w fun e w'=>FreshHw w h' t y e w':=by
 rcases hE with ⟨hk,rfl,rfl,rfl⟩ | ⟨hk,hI,he,rfl,rfl⟩ | ⟨i,hk,hI,hs,he,rfl,rfl⟩ | ⟨i,hk,hI,hs,rfl,rfl,rfl⟩
 ·have HR:=Lib.hid fun (w:World) z m=>zread_bad (w:=w) (v:=v) (h:=h) z m hl hw hk
  clear hk
  unfold hpV hpv at HR
  unfold FreshHw hpV hpv
  go_enter Tryz.func40,Tryz.ntmps40
  go_wp2_with fail
  go_at_call 73
  refine (HR.out _ (hz.later bX) (hM.later bX)).mono ?_
  rintro e w1 ⟨rfl,hb_w1⟩
  obtain ⟨hc_w1,hf_w1⟩:=bcell hb_w1;have hz_w1_w_0:w.heap.size < w1.heap.size:=lY hb_w1.size;have hz_w1_w_1:w.heap.size + 1 < w1.heap.size:=lY hb_w1.size;have hs_w1:=hb_w1.size;(try simp only [zZ] at hs_w1)
  have hR:=(B4.new (w.alloc (.cells #[.slice v.A h.ws.length v.ca,.int .i64 h.n,.slice v.U h.us.length v.cu,.slice v.V h.l.length v.cv] 31)) (.slice none 0 0) (.int .i64 0) (.slice none 0 0) (.slice none 0 0) 31).later hb_w1
  simp only [zA] at hR
  obtain ⟨r0,r1,r2,r3,z0,z1,z2,z3⟩:=id hR
  have hb1:Below w.heap.size w w1:=bX
  clear hc_w1 hf_w1
  go_wp2
  exact bodyPost_ret (res_hp3 rfl rfl (hR.all _ _ _ _)) rfl ⟨hv0,none,0,rfl,OwnsH.zero _ _,OwnsN.nil _ _,below_all hb1 (by omega) _ _ _ _⟩
 ·subst h'
  have HR:=Lib.hid fun (w:World) z m=>zread_ok (w:=w) (v:=v) (h:=h) z m hk
  have HTW:=Lib.hid fun (w:World) m=>ztwin_any (w:=w) (v:=v) (h:=h) m hk.framed hnil
  have hl256:=hk.framed.spans.1
  have HSP:=Lib.hid fun (w:World) (V:Option Addr) (A U:Option Addr) (na ca nu cu cv:Nat) (hv:SRow w w.heap.size V h.l)=>zspanat_any (w:=w) (n:=h.n) (A:=A) (U:=U) (V:=V) (l:=h.l) na ca nu cu cv hv (by omega) f (-1) hI
  clear hk hI
  unfold hpv at HSP
  unfold hpV hpv at HR HTW
  unfold FreshHw hpV hpv
  go_enter Tryz.func40,Tryz.ntmps40
  go_wp2_with fail
  go_at_call 73
  refine (HR.out _ (hz.later bX) (hM.later bX)).mono ?_
  rintro e w1 ⟨g,L,N,rfl,hg,hRd,hq,hb_w1⟩
  obtain ⟨hc_w1,hf_w1⟩:=bcell hb_w1;have hz_w1_w_0:w.heap.size < w1.heap.size:=lY hb_w1.size;have hz_w1_w_1:w.heap.size + 1 < w1.heap.size:=lY hb_w1.size;have hs_w1:=hb_w1.size;(try simp only [zZ] at hs_w1)
  have hR:=(B4.new (w.alloc (.cells #[.slice v.A h.ws.length v.ca,.int .i64 h.n,.slice v.U h.us.length v.cu,.slice v.V h.l.length v.cv] 31)) (.slice none 0 0) (.int .i64 0) (.slice none 0 0) (.slice none 0 0) 31).later hb_w1
  simp only [zA] at hR hg
  have hb1:Below w.heap.size w w1:=bX
  have hs1:=hR.lt
  have hg1:=hRd.rd.lt
  obtain ⟨m0,m1,m2,m3⟩:=id hRd.rd.hb
  clear hc_w1 hf_w1
  go_wp2_with fail
  go_at_call 74
  refine (HTW.out _ (hRd.rd.mem.more (by omega))).mono ?_
  rintro e w2 ⟨v2,rfl,oH,hb_w2⟩
  have hR2:=hR.later hb_w2
  have hRd2:=hRd.later hb_w2
  have hb2:Below w.heap.size w w2:=hb1.trans (hb_w2.mono hb1.size)
  have hs2:=hb_w2.size
  have hW:=WB.new oH hb_w2.size 112
  have hb3:Below w2.heap.size w2 (w2.alloc (.cells #[.slice v2.A h.ws.length v2.ca,.int .i64 h.n,.slice v2.U h.us.length v2.cu,.slice v2.V h.l.length v2.cv] 112)):=Below.alloc (Below.refl _ _) (Nat.le_refl _) _
  have hR3:=hR2.later hb3
  have hRd3:=hRd2.later hb3
  have hbb3:Below w.heap.size w (w2.alloc (.cells #[.slice v2.A h.ws.length v2.ca,.int .i64 h.n,.slice v2.U h.us.length v2.cu,.slice v2.V h.l.length v2.cv] 112)):=hb2.alloc hb2.size _
  have hs3:(w2.alloc (.cells #[.slice v2.A h.ws.length v2.ca,.int .i64 h.n,.slice v2.U h.us.length v2.cu,.slice v2.V h.l.length v2.cv] 112)).heap.size=w2.heap.size + 1:=World.size_alloc _ _
  clear hb_w1 hb_w2 m0 m1 m2 m3 hR hRd oH hR2 hRd2 hb1 hb2 hb3
  obtain ⟨c0,c1,c2,c3,f0,f1,f2,f3⟩:=id hW.box
  go_wp2_with fail
  go_at_call 116
  refine (HSP.out _ v2.V v2.A v2.U h.ws.length v2.ca h.us.length v2.cu v2.cv hW.hm.v).mono ?_
  rintro e w4 ⟨rfl,hb_w4⟩
  have hW4:=hW.later hb_w4
  have hR4:=hR3.later hb_w4
  have hs4:=hb_w4.size
  rw [hs3] at hs4
  have hb4:Below w.heap.size w w4:=hbb3.trans (hb_w4.mono hbb3.size)
  clear c0 c1 c2 c3 f0 f1 f2 f3
  obtain ⟨c0,c1,c2,c3,f0,f1,f2,f3⟩:=id hW4.box
  obtain ⟨r0,r1,r2,r3,z0,z1,z2,z3⟩:=id hR4
  go_wp2
  exact bodyPost_ret (res_hp3 rfl rfl (hR4.all _ _ _ _)) rfl ⟨v2,none,0,rfl,(hW4.owns.all (by omega) _ _ _ _).mono (by omega),OwnsN.nil _ _,below_all hb4 (by omega) _ _ _ _⟩
 ·subst h'
  have HR:=Lib.hid fun (w:World) z m=>zread_ok (w:=w) (v:=v) (h:=h) z m hk
  have HTW:=Lib.hid fun (w:World) m=>ztwin_any (w:=w) (v:=v) (h:=h) m hk.framed hnil
  have hl256:=hk.framed.spans.1
  have HSP:=Lib.hid fun (w:World) (V:Option Addr) (A U:Option Addr) (na ca nu cu cv:Nat) (hv:SRow w w.heap.size V h.l)=>zspanat_any (w:=w) (n:=h.n) (A:=A) (U:=U) (V:=V) (l:=h.l) na ca nu cu cv hv (by omega) f (i:Int) hI
  have HI:=Lib.hid hI.lt
  have HSW:=Lib.hid hs
  clear hk hI hs
  unfold hpv at HSP
  unfold hpV hpv at HR HTW
  unfold FreshHw hpV hpv
  go_enter Tryz.func40,Tryz.ntmps40
  go_wp2_with fail
  go_at_call 73
  refine (HR.out _ (hz.later bX) (hM.later bX)).mono ?_
  rintro e w1 ⟨g,L,N,rfl,hg,hRd,hq,hb_w1⟩
  obtain ⟨hc_w1,hf_w1⟩:=bcell hb_w1;have hz_w1_w_0:w.heap.size < w1.heap.size:=lY hb_w1.size;have hz_w1_w_1:w.heap.size + 1 < w1.heap.size:=lY hb_w1.size;have hs_w1:=hb_w1.size;(try simp only [zZ] at hs_w1)
  have hR:=(B4.new (w.alloc (.cells #[.slice v.A h.ws.length v.ca,.int .i64 h.n,.slice v.U h.us.length v.cu,.slice v.V h.l.length v.cv] 31)) (.slice none 0 0) (.int .i64 0) (.slice none 0 0) (.slice none 0 0) 31).later hb_w1
  simp only [zA] at hR hg
  have hb1:Below w.heap.size w w1:=bX
  have hs1:=hR.lt
  have hg1:=hRd.rd.lt
  obtain ⟨m0,m1,m2,m3⟩:=id hRd.rd.hb
  clear hc_w1 hf_w1
  go_wp2_with fail
  go_at_call 74
  refine (HTW.out _ (hRd.rd.mem.more (by omega))).mono ?_
  rintro e w2 ⟨v2,rfl,oH,hb_w2⟩
  have hR2:=hR.later hb_w2
  have hRd2:=hRd.later hb_w2
  have hb2:Below w.heap.size w w2:=hb1.trans (hb_w2.mono hb1.size)
  have hs2:=hb_w2.size
  have hW:=WB.new oH hb_w2.size 112
  have hb3:Below w2.heap.size w2 (w2.alloc (.cells #[.slice v2.A h.ws.length v2.ca,.int .i64 h.n,.slice v2.U h.us.length v2.cu,.slice v2.V h.l.length v2.cv] 112)):=Below.alloc (Below.refl _ _) (Nat.le_refl _) _
  have hR3:=hR2.later hb3
  have hRd3:=hRd2.later hb3
  have hbb3:Below w.heap.size w (w2.alloc (.cells #[.slice v2.A h.ws.length v2.ca,.int .i64 h.n,.slice v2.U h.us.length v2.cu,.slice v2.V h.l.length v2.cv] 112)):=hb2.alloc hb2.size _
  have hs3:(w2.alloc (.cells #[.slice v2.A h.ws.length v2.ca,.int .i64 h.n,.slice v2.U h.us.length v2.cu,.slice v2.V h.l.length v2.cv] 112)).heap.size=w2.heap.size + 1:=World.size_alloc _ _
  clear hb_w1 hb_w2 m0 m1 m2 m3 hR hRd oH hR2 hRd2 hb1 hb2 hb3
  obtain ⟨c0,c1,c2,c3,f0,f1,f2,f3⟩:=id hW.box
  go_wp2_with fail
  go_at_call 116
  refine (HSP.out _ v2.V v2.A v2.U h.ws.length v2.ca h.us.length v2.cu v2.cv hW.hm.v).mono ?_
  rintro e w4 ⟨rfl,hb_w4⟩
  have hW4:=hW.later hb_w4
  have hR4:=hR3.later hb_w4
  have hs4:=hb_w4.size
  rw [hs3] at hs4
  have hb4:Below w.heap.size w w4:=hbb3.trans (hb_w4.mono hbb3.size)
  clear c0 c1 c2 c3 f0 f1 f2 f3
  obtain ⟨g4,A4,ca4,M4,cm4,hV4,hgB4,hgl4,hbg4,s8,oA4,oM4,fz4,f04,hf04⟩:=hW4.span HI.out
  have i0:(0:Int) ≤ (i:Int):=by omega
  have i1:(i:Int) < (h.l.length:Int):=by have:=HI.out;omega
  have s7:=s8.c7
  rw [HSW.out] at s7
  have hV4':=Lib.hid hV4
  clear s8 oA4 oM4 fz4 hf04
  obtain ⟨V0,V1,V2,V3,V4,V5⟩:=v2
  simp only at hV4
  subst hV4
  obtain ⟨c0,c1,c2,c3,f0,f1,f2,f3⟩:=id hW4.box
  obtain ⟨r0,r1,r2,r3,z0,z1,z2,z3⟩:=id hR4
  go_wp2
  exact bodyPost_ret (res_hp3 rfl rfl (hR4.all _ _ _ _)) rfl ⟨⟨V0,V1,V2,V3,(some ⟨g4,0,none⟩),V5⟩,none,0,rfl,(hW4.owns.all (by omega) _ _ _ _).mono (by omega),OwnsN.nil _ _,below_all hb4 (by omega) _ _ _ _⟩
 ·have HR:=Lib.hid fun (w:World) z m=>zread_ok (w:=w) (v:=v) (h:=h) z m hk
  have HTW:=Lib.hid fun (w:World) m=>ztwin_any (w:=w) (v:=v) (h:=h) m hk.framed hnil
  have hl256:=hk.framed.spans.1
  have HSP:=Lib.hid fun (w:World) (V:Option Addr) (A U:Option Addr) (na ca nu cu cv:Nat) (hv:SRow w w.heap.size V h.l)=>zspanat_any (w:=w) (n:=h.n) (A:=A) (U:=U) (V:=V) (l:=h.l) na ca nu cu cv hv (by omega) f (i:Int) hI
  have HI:=Lib.hid hI.lt
  have HSW:=Lib.hid hs
  have HCL:=Lib.hid fun (w:World) (B b:Nat) (v:Hv) (mm:WB w B b v h)=>zclean_any mm hk hI.lt hs
  clear hk hI hs
  unfold hpv at HSP
  unfold hpV hpv at HR HTW
  unfold FreshHw hpV hpv
  go_enter Tryz.func40,Tryz.ntmps40
  go_wp2_with fail
  go_at_call 73
  refine (HR.out _ (hz.later bX) (hM.later bX)).mono ?_
  rintro e w1 ⟨g,L,N,rfl,hg,hRd,hq,hb_w1⟩
  obtain ⟨hc_w1,hf_w1⟩:=bcell hb_w1;have hz_w1_w_0:w.heap.size < w1.heap.size:=lY hb_w1.size;have hz_w1_w_1:w.heap.size + 1 < w1.heap.size:=lY hb_w1.size;have hs_w1:=hb_w1.size;(try simp only [zZ] at hs_w1)
  have hR:=(B4.new (w.alloc (.cells #[.slice v.A h.ws.length v.ca,.int .i64 h.n,.slice v.U h.us.length v.cu,.slice v.V h.l.length v.cv] 31)) (.slice none 0 0) (.int .i64 0) (.slice none 0 0) (.slice none 0 0) 31).later hb_w1
  simp only [zA] at hR hg
  have hb1:Below w.heap.size w w1:=bX
  have hs1:=hR.lt
  have hg1:=hRd.rd.lt
  obtain ⟨m0,m1,m2,m3⟩:=id hRd.rd.hb
  clear hc_w1 hf_w1
  go_wp2_with fail
  go_at_call 74
  refine (HTW.out _ (hRd.rd.mem.more (by omega))).mono ?_
  rintro e w2 ⟨v2,rfl,oH,hb_w2⟩
  have hR2:=hR.later hb_w2
  have hRd2:=hRd.later hb_w2
  have hb2:Below w.heap.size w w2:=hb1.trans (hb_w2.mono hb1.size)
  have hs2:=hb_w2.size
  have hW:=WB.new oH hb_w2.size 112
  have hb3:Below w2.heap.size w2 (w2.alloc (.cells #[.slice v2.A h.ws.length v2.ca,.int .i64 h.n,.slice v2.U h.us.length v2.cu,.slice v2.V h.l.length v2.cv] 112)):=Below.alloc (Below.refl _ _) (Nat.le_refl _) _
  have hR3:=hR2.later hb3
  have hRd3:=hRd2.later hb3
  have hbb3:Below w.heap.size w (w2.alloc (.cells #[.slice v2.A h.ws.length v2.ca,.int .i64 h.n,.slice v2.U h.us.length v2.cu,.slice v2.V h.l.length v2.cv] 112)):=hb2.alloc hb2.size _
  have hs3:(w2.alloc (.cells #[.slice v2.A h.ws.length v2.ca,.int .i64 h.n,.slice v2.U h.us.length v2.cu,.slice v2.V h.l.length v2.cv] 112)).heap.size=w2.heap.size + 1:=World.size_alloc _ _
  clear hb_w1 hb_w2 m0 m1 m2 m3 hR hRd oH hR2 hRd2 hb1 hb2 hb3
  obtain ⟨c0,c1,c2,c3,f0,f1,f2,f3⟩:=id hW.box
  go_wp2_with fail
  go_at_call 116
  refine (HSP.out _ v2.V v2.A v2.U h.ws.length v2.ca h.us.length v2.cu v2.cv hW.hm.v).mono ?_
  rintro e w4 ⟨rfl,hb_w4⟩
  have hW4:=hW.later hb_w4
  have hR4:=hR3.later hb_w4
  have hs4:=hb_w4.size
  rw [hs3] at hs4
  have hb4:Below w.heap.size w w4:=hbb3.trans (hb_w4.mono hbb3.size)
  clear c0 c1 c2 c3 f0 f1 f2 f3
  obtain ⟨g4,A4,ca4,M4,cm4,hV4,hgB4,hgl4,hbg4,s8,oA4,oM4,fz4,f04,hf04⟩:=hW4.span HI.out
  have i0:(0:Int) ≤ (i:Int):=by omega
  have i1:(i:Int) < (h.l.length:Int):=by have:=HI.out;omega
  have s7:=s8.c7
  rw [HSW.out] at s7
  have hV4':=Lib.hid hV4
  clear s8 oA4 oM4 fz4 hf04
  obtain ⟨c0,c1,c2,c3,f0,f1,f2,f3⟩:=id hW4.box
  rw [hV4] at c3
  go_wp2_with fail
  go_at_call 117
  refine (HCL.out _ _ _ _ hW4).mono ?_
  rintro e w5 ⟨L5,c5,rfl,o5,⟨v5,hW5⟩,hb_w5⟩
  clear c0 c1 c2 c3 f0 f1 f2 f3
  clear s7
  have hR5:=hR4.below hb_w5 (by omega)
  have hs5:=hb_w5.size
  have hb5:Below w.heap.size w w5:=hb4.trans (hb_w5.mono (by omega))
  obtain ⟨c0,c1,c2,c3,f0,f1,f2,f3⟩:=id hW5.box
  obtain ⟨r0,r1,r2,r3,z0,z1,z2,z3⟩:=id hR5
  go_wp2
  exact bodyPost_ret (res_hp3 rfl rfl (hR5.all _ _ _ _)) rfl ⟨v5,L5,c5,rfl,(hW5.owns.all (by omega) _ _ _ _).mono (by omega),(o5.all (b:=w.heap.size + 1) (by omega) _ _ _ _).mono (by omega),below_all hb5 (by omega) _ _ _ _⟩
end
def lh0:Hp:=mkH 4
def lh1:Hp:=plcH (groH lh0 1 1 4 0) 0 0 2 1 false
def lh2:Hp:=plcH (groH lh1 2 1 2 1) 1 0 1 0 false
def lh3:Hp:=stoH lh2 17 32
def lh4:Hp:=marH lh3 1 0
def lh5:Hp:=trnH lh4
def lh6:Hp:=clnH lh5 0
theorem lk0:OkH lh0:=mkH_ok (by decide) (by decide)
theorem lmake:MakE 4 lh0 0:=.inr ⟨by decide,rfl,rfl⟩
theorem lnew1:NewE lh0 2 1 false lh1 16 0:=by
 refine .inr (.inr (.inr ⟨lk0,by decide,rfl,0,0,groH lh0 1 1 4 0,.inr (.inl ⟨by decide,.inr (.inl ⟨lk0.framed.spans,.inl ⟨rfl,fun i hi=>absurd hi (Nat.not_lt_zero i)⟩,rfl,rfl,rfl⟩),?_,rfl⟩),rfl,by decide +kernel⟩))
 have e1:pgOf (2 + 1)=1:=by decide
 have e2:szn 2=4:=by decide
 rw [e1,e2]
 refine .inr (.inr ⟨1,0,.inl ⟨rfl,1,by decide,by decide +kernel,fun j hj=>?_,by decide⟩,by decide,.inl ⟨.inl ⟨rfl,fun i hi=>absurd hi (Nat.not_lt_zero i)⟩,rfl⟩,rfl,rfl,rfl⟩)
 obtain rfl | rfl:j=0 ∨ j=1:=by omega
 ·decide +kernel
 ·decide +kernel
theorem lk1:OkH lh1:=lnew1.made.2.1
theorem lnew2:NewE lh1 1 0 false lh2 32 0:=by
 refine .inr (.inr (.inr ⟨lk1,by decide,rfl,1,0,groH lh1 2 1 2 1,.inr (.inl ⟨by decide,.inr (.inl ⟨lk1.framed.spans,.inl ⟨rfl,fun i hi=>?_⟩,rfl,rfl,rfl⟩),?_,rfl⟩),rfl,by decide +kernel⟩))
 ·have hi:i < 1:=hi
  obtain rfl:i=0:=by omega
  decide +kernel
 have e1:pgOf (1 + 1)=1:=by decide
 have e2:szn 1=2:=by decide
 rw [e1,e2]
 refine .inr (.inr ⟨2,1,.inl ⟨rfl,2,by decide,by decide +kernel,fun j hj=>?_,by decide⟩,by decide,.inl ⟨.inl ⟨rfl,fun i hi=>?_⟩,rfl⟩,rfl,rfl,rfl⟩)
 ·obtain rfl | rfl | rfl:j=0 ∨ j=1 ∨ j=2:=by omega
  ·decide +kernel
  ·decide +kernel
  ·decide +kernel
 ·have hi:i < 1:=hi
  obtain rfl:i=0:=by omega
  decide +kernel
theorem lk2:OkH lh2:=lnew2.made.2.1
theorem lsto1:StoE lh2 16 0 32 true lh3 0:=.inr (.inr ⟨lk2,.inr (.inr (.inr (.inr ⟨by decide +kernel,by decide +kernel,by decide +kernel,fun _=>by decide +kernel,rfl⟩))),rfl,rfl⟩)
theorem lk3:OkH lh3:=lsto1.ok lk2
theorem lload:LoadE lh3 16 0 32 true 0:=.inr (.inr (.inr ⟨lk3,by decide +kernel,by decide +kernel,by decide +kernel,by decide +kernel,rfl⟩))
theorem lsto2:StoE lh3 16 1 32 true lh3 8:=.inr (.inl ⟨lk3,.inr (.inr (.inl ⟨by decide +kernel,by decide +kernel,by decide +kernel,rfl⟩)),by decide,rfl⟩)
theorem lmark:MarE lh3 32 lh4 false 0:=by
 have e1:(fnO lh3 32).i=1:=by decide +kernel
 have e2:(fnO lh3 32).k=0:=by decide +kernel
 have e3:(fnO lh3 32).b=false:=by decide +kernel
 exact .inr (.inr ⟨lk3,by decide +kernel,by rw [e1,e2];rfl,e3.symm,rfl⟩)
theorem lk4:OkH lh4:=lmark.ok lk3
theorem lturn:TrnE lh4 lh5 0:=by
 have hs:SweptH lh4:=fun j hj=>by
  have hj:j < 2:=hj
  obtain rfl | rfl:j=0 ∨ j=1:=by omega
  ·decide +kernel
  ·decide +kernel
 exact .inr (.inr (.inr ⟨lk4,hs,(closedH_iff lk4 hs).1 (by decide +kernel),rfl,rfl⟩))
theorem lk5:OkH lh5:=lturn.ok lk4
theorem lclean:ClnE lh5 1 lh6 [16] 0:=.inr (.inr (.inr ⟨0,lk5,.inr ⟨0,rfl,by decide +kernel,by decide +kernel,fun j hj=>absurd hj (Nat.not_lt_zero j)⟩,by decide +kernel,rfl,by decide +kernel,rfl⟩))
theorem lk6:OkH lh6:=lclean.ok lk5
theorem lat_:AtE lh6 16 0 0 10:=.inr ⟨lk6,by decide +kernel,by decide +kernel,by decide +kernel⟩
theorem lobj:ObjE lh6 [32] 0:=.inr ⟨lk6,by decide +kernel,rfl⟩
theorem WB.put {w:World} {B B' b:Nat} {x0 x1 x2 x3:Value} {v:Hv} {h:Hp} (hx:B4 w b x0 x1 x2 x3) (hle:B ≤ b) (o:OwnsH w B' v h) (hb:b < B') (hB:B ≤ B') :
  WB ((((w.setCell ⟨b,0,none⟩ (.slice v.A h.ws.length v.ca)).setCell ⟨b,1,none⟩ (.int .i64 h.n)).setCell ⟨b,2,none⟩ (.slice v.U h.us.length v.cu)).setCell ⟨b,3,none⟩ (.slice v.V h.l.length v.cv)) B b v h:=by
 have o2:=o.all hb (.slice v.A h.ws.length v.ca) (.int .i64 h.n) (.slice v.U h.us.length v.cu) (.slice v.V h.l.length v.cv)
 have o3:=o2.mono hB
 obtain ⟨vs,e,hs⟩:=o2.s
 obtain ⟨vs',e',hs'⟩:=o3.s
 exact ⟨hx.all _ _ _ _,hle,o3.a,o3.u,⟨vs,e,⟨hs.len,(hs.mono hB).row_,(hs.mono hB).words,hs.apart⟩,hs.aptS_ge hb⟩,o2.a.apt hb,o2.u.apt hb⟩
theorem OkH.lens {h:Hp} (hk:OkH h):h.l.length ≤ 17592186044416∧h.ws.length ≤ 17592186044416:=by
 have h1:=hk.framed.spans.1
 have h2:=hk.framed.words
 exact ⟨by omega,by omega⟩
theorem below_put {B b:Nat} {a W w:World} (o:Below B a W) (hb:Below W.heap.size W w) (hB:B ≤ W.heap.size) (hle:B ≤ b) (u0 u1 u2 u3:Value):Below B a ((((w.setCell ⟨b,0,none⟩ u0).setCell ⟨b,1,none⟩ u1).setCell ⟨b,2,none⟩ u2).setCell ⟨b,3,none⟩ u3):=
 below_all (o.trans (hb.mono hB)) hle u0 u1 u2 u3
set_option maxHeartbeats 4000000 in
theorem hlives_gen {h0 h1 h2 h3 h4 h5 h6:Hp} (k0:OkH h0) (k1:OkH h1) (k2:OkH h2) (k3:OkH h3) (k4:OkH h4) (k5:OkH h5) (k6:OkH h6)
  (e1:MakE 4 h0 0) (e2:NewE h0 2 1 false h1 16 0) (e3:NewE h1 1 0 false h2 32 0) (e4:StoE h2 16 0 32 true h3 0) (e5:LoadE h3 16 0 32 true 0) (e6:StoE h3 16 1 32 true h3 8) (e7:MarE h3 32 h4 false 0) (e8:TrnE h4 h5 0) (e9:ClnE h5 1 h6 [16] 0) (e10:AtE h6 16 0 0 10) (e11:ObjE h6 [32] 0)
  (w:World) (hz:Sizes w):Calls Tryz.prog 19 #[] w fun e w'=>e=.returned (.bool true)∧Below w.heap.size w w':=by
 have H1:Hid (∀ (W:World),Calls Tryz.prog 17 #[.int .i64 4] W fun e W'=>∃ v',e=.returned (.tuple #[hpV v' h0,.int .i64 0])∧OwnsH W' W.heap.size v' h0∧Below W.heap.size W W'):=Lib.hid fun W=>zmakeH_any W 4 h0 0 e1
 have H2:Hid (∀ (W:World) (v:Hv),Sizes W → HM W W.heap.size v h0 → (v.V=none → v.cv=0) → Calls Tryz.prog 15 #[hpV v h0,.agg #[.int .i64 2,.int .u64 1],.bool false] W fun e W'=>∃ v',e=.returned (.tuple #[hpV v' h1,.int .u64 16,.int .i64 0])∧OwnsH W' W.heap.size v' h1∧Below W.heap.size W W'):=Lib.hid fun W v z m n=>znewH_any z m k0.lens.1 k0.lens.2 n 2 1 (by decide) false h1 16 0 e2
 have H3:Hid (∀ (W:World) (v:Hv),Sizes W → HM W W.heap.size v h1 → (v.V=none → v.cv=0) → Calls Tryz.prog 15 #[hpV v h1,.agg #[.int .i64 1,.int .u64 0],.bool false] W fun e W'=>∃ v',e=.returned (.tuple #[hpV v' h2,.int .u64 32,.int .i64 0])∧OwnsH W' W.heap.size v' h2∧Below W.heap.size W W'):=Lib.hid fun W v z m n=>znewH_any z m k1.lens.1 k1.lens.2 n 1 0 (by decide) false h2 32 0 e3
 have H4:Hid (∀ (W:World) (v:Hv),Sizes W → HM W W.heap.size v h2 → (v.V=none → v.cv=0) → Calls Tryz.prog 27 #[hpV v h2,.int .u64 16,.int .i64 0,.int .u64 32,.bool true] W fun e W'=>∃ v',e=.returned (.tuple #[hpV v' h3,.int .i64 0])∧OwnsH W' W.heap.size v' h3∧Below W.heap.size W W'):=Lib.hid fun W v z m n=>zstoreH_any z m k2.lens.1 k2.lens.2 n 16 (by decide) 0 32 (by decide) true h3 0 e4
 have H5:Hid (∀ (W:World) (v:Hv),Sizes W → HM W W.heap.size v h3 → (v.V=none → v.cv=0) → Calls Tryz.prog 25 #[hpV v h3,.int .u64 16,.int .i64 0] W fun e W'=> e=.returned (.tuple #[.int .u64 32,.bool true,.int .i64 0])∧Below W.heap.size W W'):=Lib.hid fun W v z m n=>zload_any z m k3.lens.1 k3.lens.2 16 (by decide) 0 32 true 0 e5
 have H6:Hid (∀ (W:World) (v:Hv),Sizes W → HM W W.heap.size v h3 → (v.V=none → v.cv=0) → Calls Tryz.prog 27 #[hpV v h3,.int .u64 16,.int .i64 1,.int .u64 32,.bool true] W fun e W'=>∃ v',e=.returned (.tuple #[hpV v' h3,.int .i64 8])∧OwnsH W' W.heap.size v' h3∧Below W.heap.size W W'):=Lib.hid fun W v z m n=>zstoreH_any z m k3.lens.1 k3.lens.2 n 16 (by decide) 1 32 (by decide) true h3 8 e6
 have H7:Hid (∀ (W:World) (v:Hv),Sizes W → HM W W.heap.size v h3 → (v.V=none → v.cv=0) → Calls Tryz.prog 29 #[hpV v h3,.int .u64 32] W fun e W'=>∃ v',e=.returned (.tuple #[hpV v' h4,.bool false,.int .i64 0])∧OwnsH W' W.heap.size v' h4∧Below W.heap.size W W'):=Lib.hid fun W v z m n=>zmarkH_any z m k3.lens.1 k3.lens.2 n 32 (by decide) h4 false 0 e7
 have H8:Hid (∀ (W:World) (v:Hv),Sizes W → HM W W.heap.size v h4 → (v.V=none → v.cv=0) → Calls Tryz.prog 38 #[hpV v h4] W fun e W'=>∃ v',e=.returned (.tuple #[hpV v' h5,.int .i64 0])∧OwnsH W' W.heap.size v' h5∧Below W.heap.size W W'):=Lib.hid fun W v z m n=>zturnH_any z m k4.lens.1 k4.lens.2 n h5 0 e8
 have H9:Hid (∀ (W:World) (v:Hv),Sizes W → HM W W.heap.size v h5 → (v.V=none → v.cv=0) → Calls Tryz.prog 40 #[hpV v h5,.int .i64 1] W fun e W'=>∃ v' A c,e=.returned (.tuple #[hpV v' h6,.slice A 1 c,.int .i64 0])∧OwnsH W' W.heap.size v' h6∧OwnsN W' W.heap.size A 1 c [16]∧Below W.heap.size W W'):=Lib.hid fun W v z m n=>zcleanH_any z m k5.lens.1 k5.lens.2 n 1 h6 [16] 0 e9
 have H10:Hid (∀ (W:World) (v:Hv),Sizes W → HM W W.heap.size v h6 → (v.V=none → v.cv=0) → Calls Tryz.prog 23 #[hpV v h6,.int .u64 16] W fun e W'=> e=.returned (.tuple #[.agg #[.int .i64 0,.int .u64 0],.int .i64 10])∧Below W.heap.size W W'):=Lib.hid fun W v z m n=>zat_any z m k6.lens.1 k6.lens.2 16 (by decide) 0 0 10 e10
 have H11:Hid (∀ (W:World) (v:Hv),Sizes W → HM W W.heap.size v h6 → (v.V=none → v.cv=0) → Calls Tryz.prog 35 #[hpV v h6] W fun e W'=>∃ A c,e=.returned (.tuple #[.slice A 1 c,.int .i64 0])∧OwnsN W' W.heap.size A 1 c [32]∧Below W.heap.size W W'):=Lib.hid fun W v z m n=>zobjH_any z m k6.lens.1 k6.lens.2 [32] 0 e11
 clear k0 k1 k2 k3 k4 k5 k6 e1 e2 e3 e4 e5 e6 e7 e8 e9 e10 e11
 unfold hpV hpv at H1 H2 H3 H4 H5 H6 H7 H8 H9 H10 H11
 go_enter Tryz.func19,Tryz.ntmps19
 go_wp2_with fail
 go_at_call 17
 refine (H1.out _).mono ?_
 rintro e w1 ⟨v1,rfl,o1,hb_w1⟩
 obtain ⟨hc_w1,hf_w1⟩:=bcell hb_w1;have hs_w1:=hb_w1.size;(try simp only [zZ] at hs_w1)
 have s1:=hb_w1.size
 have m1:=WB.new o1 s1 31
 have B1:Below w.heap.size w (w1.alloc (.cells #[.slice v1.A h0.ws.length v1.ca,.int .i64 h0.n,.slice v1.U h0.us.length v1.cu,.slice v1.V h0.l.length v1.cv] 31)):=hb_w1.alloc s1 _
 obtain ⟨c0,c1,c2,c3,f0,f1,f2,f3⟩:=id m1.box
 clear hc_w1 hf_w1 o1
 go_wp2_with fail
 go_at_call 15
 refine (H2.out _ _ (hz.later (by exact B1)) (by exact m1.hm) m1.owns.nil).mono ?_
 rintro e w2 ⟨v2,rfl,o2,hb_w2⟩
 clear c0 c1 c2 c3 f0 f1 f2 f3
 have x2:=m1.box.later hb_w2
 have l1:=m1.lt
 have s2:=B1.size
 have m2:=WB.put x2 m1.le o2 l1 s2
 have B2:=below_put B1 hb_w2 s2 m1.le (.slice v2.A h1.ws.length v2.ca) (.int .i64 h1.n) (.slice v2.U h1.us.length v2.cu) (.slice v2.V h1.l.length v2.cv)
 obtain ⟨c0,c1,c2,c3,f0,f1,f2,f3⟩:=id x2
 clear m1 B1 x2 o2
 go_wp2_with fail
 go_at_call 15
 refine (H3.out _ _ (hz.later (by exact B2)) (by exact m2.hm) m2.owns.nil).mono ?_
 rintro e w3 ⟨v3,rfl,o3,hb_w3⟩
 clear c0 c1 c2 c3 f0 f1 f2 f3
 have x3:=m2.box.later hb_w3
 have l2:=m2.lt
 have s3:=B2.size
 have m3:=WB.put x3 m2.le o3 l2 s3
 have B3:=below_put B2 hb_w3 s3 m2.le (.slice v3.A h2.ws.length v3.ca) (.int .i64 h2.n) (.slice v3.U h2.us.length v3.cu) (.slice v3.V h2.l.length v3.cv)
 obtain ⟨c0,c1,c2,c3,f0,f1,f2,f3⟩:=id x3
 clear m2 B2 x3 o3
 go_wp2_with fail
 go_at_call 27
 refine (H4.out _ _ (hz.later (by exact B3)) (by exact m3.hm) m3.owns.nil).mono ?_
 rintro e w4 ⟨v4,rfl,o4,hb_w4⟩
 clear c0 c1 c2 c3 f0 f1 f2 f3
 have x4:=m3.box.later hb_w4
 have l3:=m3.lt
 have s4:=B3.size
 have m4:=WB.put x4 m3.le o4 l3 s4
 have B4:=below_put B3 hb_w4 s4 m3.le (.slice v4.A h3.ws.length v4.ca) (.int .i64 h3.n) (.slice v4.U h3.us.length v4.cu) (.slice v4.V h3.l.length v4.cv)
 obtain ⟨c0,c1,c2,c3,f0,f1,f2,f3⟩:=id x4
 clear m3 B3 x4 o4
 go_wp2_with fail
 go_at_call 25
 refine (H5.out _ _ (hz.later (by exact B4)) (by exact m4.hm) m4.owns.nil).mono ?_
 rintro e w5 ⟨rfl,hb_w5⟩
 clear c0 c1 c2 c3 f0 f1 f2 f3
 have m5:=m4.later hb_w5
 have B5:=B4.trans (hb_w5.mono B4.size)
 obtain ⟨c0,c1,c2,c3,f0,f1,f2,f3⟩:=id m5.box
 clear m4 B4
 go_wp2_with fail
 go_at_call 27
 refine (H6.out _ _ (hz.later (by exact B5)) (by exact m5.hm) m5.owns.nil).mono ?_
 rintro e w6 ⟨v6,rfl,o6,hb_w6⟩
 clear c0 c1 c2 c3 f0 f1 f2 f3
 have m6:=m5.later hb_w6
 have B6:=B5.trans (hb_w6.mono B5.size)
 have a6:Below w6.heap.size w6 (w6.alloc (.cells #[.slice v6.A h3.ws.length v6.ca,.int .i64 h3.n,.slice v6.U h3.us.length v6.cu,.slice v6.V h3.l.length v6.cv] 31)):=Below.alloc (Below.refl _ _) (Nat.le_refl _) _
 have m6:=m6.later a6
 have B6:=B6.trans (a6.mono B6.size)
 obtain ⟨c0,c1,c2,c3,f0,f1,f2,f3⟩:=id m6.box
 clear m5 B5
 clear o6
 go_wp2_with fail
 go_at_call 29
 refine (H7.out _ _ (hz.later (by exact B6)) (by exact m6.hm) m6.owns.nil).mono ?_
 rintro e w7 ⟨v7,rfl,o7,hb_w7⟩
 clear c0 c1 c2 c3 f0 f1 f2 f3
 have x7:=m6.box.later hb_w7
 have l6:=m6.lt
 have s7:=B6.size
 have m7:=WB.put x7 m6.le o7 l6 s7
 have B7:=below_put B6 hb_w7 s7 m6.le (.slice v7.A h4.ws.length v7.ca) (.int .i64 h4.n) (.slice v7.U h4.us.length v7.cu) (.slice v7.V h4.l.length v7.cv)
 obtain ⟨c0,c1,c2,c3,f0,f1,f2,f3⟩:=id x7
 clear m6 B6 x7 o7
 go_wp2_with fail
 go_at_call 38
 refine (H8.out _ _ (hz.later (by exact B7)) (by exact m7.hm) m7.owns.nil).mono ?_
 rintro e w8 ⟨v8,rfl,o8,hb_w8⟩
 clear c0 c1 c2 c3 f0 f1 f2 f3
 have x8:=m7.box.later hb_w8
 have l7:=m7.lt
 have s8:=B7.size
 have m8:=WB.put x8 m7.le o8 l7 s8
 have B8:=below_put B7 hb_w8 s8 m7.le (.slice v8.A h5.ws.length v8.ca) (.int .i64 h5.n) (.slice v8.U h5.us.length v8.cu) (.slice v8.V h5.l.length v8.cv)
 obtain ⟨c0,c1,c2,c3,f0,f1,f2,f3⟩:=id x8
 clear m7 B7 x8 o8
 go_wp2_with fail
 go_at_call 40
 refine (H9.out _ _ (hz.later (by exact B8)) (by exact m8.hm) m8.owns.nil).mono ?_
 rintro e w9 ⟨v9,A9,c9,rfl,o9,n9,hb_w9⟩
 clear c0 c1 c2 c3 f0 f1 f2 f3
 have x9:=m8.box.later hb_w9
 have l8:=m8.lt
 have s9:=B8.size
 have m9:=WB.put x9 m8.le o9 l8 s9
 have B9:=below_put B8 hb_w9 s9 m8.le (.slice v9.A h6.ws.length v9.ca) (.int .i64 h6.n) (.slice v9.U h6.us.length v9.cu) (.slice v9.V h6.l.length v9.cv)
 have n10:=n9.all (b:=w1.heap.size) l8 (.slice v9.A h6.ws.length v9.ca) (.int .i64 h6.n) (.slice v9.U h6.us.length v9.cu) (.slice v9.V h6.l.length v9.cv)
 obtain ⟨c0,c1,c2,c3,f0,f1,f2,f3⟩:=id x9
 clear m8 B8 x9 o9
 go_wp2_with fail
 go_at_call 23
 refine (H10.out _ _ (hz.later (by exact B9)) (by exact m9.hm) m9.owns.nil).mono ?_
 rintro e w10 ⟨rfl,hb_w10⟩
 clear c0 c1 c2 c3 f0 f1 f2 f3
 have m10:=m9.later hb_w10
 have B10:=B9.trans (hb_w10.mono B9.size)
 have a10:Below w10.heap.size w10 (w10.alloc (.cells #[.int .i64 0,.int .u64 0] 34)):=Below.alloc (Below.refl _ _) (Nat.le_refl _) _
 have m10:=m10.later a10
 have B10:=B10.trans (a10.mono B10.size)
 obtain ⟨c0,c1,c2,c3,f0,f1,f2,f3⟩:=id m10.box
 clear m9 B9
 have n11:=(n10.later hb_w10).later a10
 go_wp2_with fail
 go_at_call 35
 refine (H11.out _ _ (hz.later (by exact B10)) (by exact m10.hm) m10.owns.nil).mono ?_
 rintro e w11 ⟨A11,c11,rfl,n12,hb_w11⟩
 clear c0 c1 c2 c3 f0 f1 f2 f3
 have m11:=m10.later hb_w11
 have B11:=B10.trans (hb_w11.mono B10.size)
 obtain ⟨c0,c1,c2,c3,f0,f1,f2,f3⟩:=id m11.box
 clear m10 B10
 have n13:=n11.later hb_w11
 obtain ⟨g9,rfl,_,gl9,q9⟩:=n13.own.at_ (by decide)
 obtain ⟨g11,rfl,_,gl11,q11⟩:=n12.own.at_ (by decide)
 have r9:=(q9 0 (by decide)).1
 have r11:=(q11 0 (by decide)).1
 have r9:w11.cell? ⟨g9,0,none⟩=some (.int .u64 16):=r9
 have r11:w11.cell? ⟨g11,0,none⟩=some (.int .u64 32):=r11
 clear n9 n10 n11 n12 n13 q9 q11
 clear c0 c1 c2 c3 f0 f1 f2 f3
 go_wp2
 go_ret
 exact ⟨rfl,B11⟩
theorem hlives_any (w:World) (hz:Sizes w):Calls Tryz.prog 19 #[] w fun e w'=>e=.returned (.bool true)∧Below w.heap.size w w':=
 hlives_gen lk0 lk1 lk2 lk3 lk4 lk5 lk6 lmake lnew1 lnew2 lsto1 lload lsto2 lmark lturn lclean lat_ lobj w hz
end Go.Proofs.YtkfmbhlefppkhaaGreatDoor
