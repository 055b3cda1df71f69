/- Parts of the proof. -/
import Derived.Test.YtafpkaifaccehaaGreatDoorScavP18
import Derived.Deep.RegionHeld3
set_option maxRecDepth 100000
set_option linter.unusedVariables false
set_option linter.unusedSimpArgs false
namespace Go.Proofs.YtafpkaifaccehaaGreatDoor
open Go.RowKit
theorem wrap_add (x y:Nat):IntKind.u64.wrap ((x:Int) + (y:Int))=(((x + y) % W64:Nat):Int):=by
 unfold W64
 simp [IntKind.wrap,IntKind.bits]
 intro h
 cases h
section
variable {A B:Option Addr} {ws ps:List Nat} {w:World} (cap cap':Nat)
end
set_option maxHeartbeats 4000000 in
theorem frel_any {w:World} {b B:Nat} {v:Hv} {O:Option Addr} {co:Nat} {s:Sc} (hx:E8 w b (.slice v.A s.h.ws.length v.ca) (.int .i64 s.h.n) (.slice v.U s.h.us.length v.cu) (.slice v.V s.h.l.length v.cv) (.int .i64 s.n) (.slice O s.os.length co) (.int .u64 (s.fa:Nat)) (.int .u64 (s.go:Nat))) (m:OwnsSc w B v O s) (hb:b < B) (hB:B ≤ w.heap.size) (hk:OkS s) (q:Nat) (hq:q ≤ 9223372036854775807) (s':Sc) (e':s'=relSc s q) :
  Calls Tryz.prog 138 #[.pointer (some ⟨b,0,none⟩),.int .i64 (q:Nat)] w fun e w'=>∃ O' co',e=.returned (.int .i64 (relG s.h.us s.n.toNat s.os q:Nat))∧E8 w' b (.slice v.A s'.h.ws.length v.ca) (.int .i64 s'.h.n) (.slice v.U s'.h.us.length v.cu) (.slice v.V s'.h.l.length v.cv) (.int .i64 s'.n) (.slice O' s'.os.length co') (.int .u64 (s'.fa:Nat)) (.int .u64 (s'.go:Nat))∧OwnsSc w' B v O' s'∧w.grownBy w' (some b):=by
 obtain ⟨h,n,os,fa,go⟩:=s
 subst e'
 unfold relSc
 simp only at *
 obtain ⟨n0,n1,n2⟩:=hk.nn
 simp only at n0 n1 n2
 obtain ⟨N,rfl⟩:∃ N:Nat,n=(N:Int):=⟨n.toNat,by omega⟩
 simp only [Int.toNat_natCast] at *
 have HSP:=Lib.hid fun (w:World) (O:Option Addr) (co:Nat) (os:List Nat) m hk i hi=>fspare_any (w:=w) (v:=v) (O:=O) (s:=⟨h,(N:Nat),os,fa,go⟩) co m hk i hi
 unfold scV at HSP
 simp only at HSP
 have HPU:=Lib.hid fun (w:World) (O:Option Addr) (co:Nat) (os:List Nat) (i:Nat) hr (hR:Right (N:Nat) os) hi=>put_in (N:=(N:Nat)) (A:=O) (ws:=os) (w:=w) (cap:=co) (v:=true) (i:=(i:Int)) hr hR (by omega) hi
 simp only [Int.toNat_natCast] at HPU
 unfold Fresh at HPU
 obtain ⟨RW,hRW⟩:∃ x,Hid (relW h.us N os q=x):=⟨_,Lib.hid rfl⟩
 obtain ⟨RG,hRG⟩:∃ x,Hid (relG h.us N os q=x):=⟨_,Lib.hid rfl⟩
 rw [hRW.out,hRG.out]
 have m0:=Lib.hid m
 have hx0:=Lib.hid hx
 have hk0:=Lib.hid hk
 have hRGle:RG ≤ q∧RG ≤ N:=by
  have p:=relP h.us (N:Nat) N os q (by omega) hk.o
  have c1:=p.count
  have c2:=countTo_le (relW h.us N os q) N
  have c3:=p.le
  simp only [Int.toNat_natCast] at c1
  rw [hRG.out] at c1 c3
  omega
 clear m hk
 obtain ⟨x0,x1,x2,x3,x4,x5,x6,x7,xf⟩:=id hx
 go_enter Tryz.func138,Tryz.ntmps138
 go_wp2_with fail
 clear x0 x1 x2 x3 x4 x5 x6 x7 xf
 go_loopw [5,6] (fun gv pv wr=>∃ (p:Int) (k g:Nat) (O1:Option Addr) (c1:Nat) (os1:List Nat),pv=.int .i64 p∧p=(k:Int) - 1∧gv=.int .i64 (g:Nat)∧k + g ≤ N∧relW h.us k os1 (q - g)=RW∧g + relG h.us k os1 (q - g)=RG∧OkS ⟨h,(N:Nat),os1,fa,go⟩∧E8 wr b (.slice v.A h.ws.length v.ca) (.int .i64 h.n) (.slice v.U h.us.length v.cu) (.slice v.V h.l.length v.cv) (.int .i64 (N:Nat)) (.slice O1 os1.length c1) (.int .u64 (fa:Nat)) (.int .u64 (go:Nat))∧OwnsSc wr B v O1 ⟨h,(N:Nat),os1,fa,go⟩∧w.grownBy wr (some b)) (fun gv pv _=>(intOf pv + 1).toNat)
 case atStart=>exact ⟨(N:Int) - 1,N,0,O,co,os,by go_num,rfl,rfl,by omega,hRW.out,by rw [Nat.zero_add];exact hRG.out,hk0.out,hx0.out,m0.out,grF_refl _ _⟩
 case round=>
  obtain ⟨p,k,g,O1,c1,os1,rfl,hp,rfl,hkg,eW,eG,hk,hx,m,hg⟩:=hrel
  have hsz:=hg.size
  have hlt:=hx.lt
  by_cases hk0:k=0
  ·subst hk0
   have f1:decide (p ≥ 0)=false:=decide_eq_false (by omega)
   have f2:decide ((0:Int) ≤ p)=false:=decide_eq_false (by omega)
   clear hp
   have EW:os1=RW:=by rw [← eW];rfl
   have EG:g=RG:=by rw [← eG];show g=g + 0;omega
   subst EW EG
   clear eW eG
   have hfu:IntKind.u64.wrap ((g:Nat):Int)=((g:Nat):Int):=IntWalk.u64_in _ (by omega)
   have hadd:=wrap_add go g
   have t2:=hx.set7 (.int .u64 (((go + g) % W64:Nat):Int))
   have o2:=OwnsSc.mk (s:=⟨h,(N:Nat),os1,fa,((go + g) % W64)⟩) (m.h.far (p:=⟨b,7,none⟩) hb (.int .u64 (((go + g) % W64:Nat):Int))) (m.o.far (p:=⟨b,7,none⟩) (.inl hb) (.int .u64 (((go + g) % W64:Nat):Int)))
   have g2:=grF_set hg 7 (.int .u64 (((go + g) % W64:Nat):Int))
   obtain ⟨x0,x1,x2,x3,x4,x5,x6,x7,xf⟩:=id hx
   go_wp2
   go_ret
   exact ⟨O1,c1,rfl,t2,o2,g2⟩
  ·obtain ⟨i,rfl⟩:∃ i,k=i + 1:=⟨k - 1,by omega⟩
   obtain rfl:p=(i:Int):=by omega
   clear hp hk0
   have f1:decide ((i:Int) ≥ 0)=true:=decide_eq_true (by omega)
   have f2:decide ((0:Int) ≤ (i:Int))=true:=decide_eq_true (by omega)
   by_cases hgq:g < q
   ·have f3:decide ((g:Int) < (q:Int))=true:=decide_eq_true (by omega)
    have f4:decide (g < q)=true:=decide_eq_true hgq
    have hiN:(i:Int) < (N:Int):=by omega
    have hR1:=hk.o
    obtain ⟨x0,x1,x2,x3,x4,x5,x6,x7,xf⟩:=id hx
    go_wp2_with fail
    go_at_call 207
    refine (HSP.out _ _ _ _ m.sm hk i hiN).mono ?_
    rintro e w1 ⟨rfl,hb_w1⟩
    have hx1:=hx.later hb_w1
    have m1:=m.later hb_w1
    have hg1:=grF_later hg hb_w1
    have hs1:=hb_w1.size
    clear hb_w1 x0 x1 x2 x3 x4 x5 x6 x7 xf
    rcases hsp:(!tb h.us i && !tb os1 i) with _ | _
    ·have eW2:=(relW_miss h.us i os1 (q - g) hsp).symm.trans eW
     have eG2:=(congrArg (g + ·) (relG_miss h.us i os1 (q - g) hsp)).symm.trans eG
     (try simp only at eG2)
     have HW2:=Lib.hid eW2
     have HG2:=Lib.hid eG2
     have HK2:=Lib.hid hk
     clear eW eG eW2 eG2 hk hx m hg
     go_wp2
     go_roundw
     case rel=>exact ⟨(i:Int) - 1,i,g,O1,c1,os1,by go_num,rfl,rfl,by omega,HW2.out,HG2.out,HK2.out,hx1,m1,hg1⟩
     case measure=>simp [intOf];try omega
    ·have eW2:=(relW_hit h.us i os1 (q - g) (by omega) hsp).symm.trans eW
     have eG2:=(congrArg (g + ·) (relG_hit h.us i os1 (q - g) (by omega) hsp)).symm.trans eG
     (try simp only at eG2)
     have hus:tb h.us i=false:=by
      rcases hh:tb h.us i with _ | _
      ·rfl
      ·rw [hh] at hsp;cases hsp
     have HW2:Hid (relW h.us i (putW os1 i true) (q - (g + 1))=RW):=Lib.hid (by rw [← eW2];rfl)
     have HG2:Hid (g + 1 + relG h.us i (putW os1 i true) (q - (g + 1))=RG):=Lib.hid (by rw [← eG2,show q - g - 1=q - (g + 1) by omega];omega)
     have hk2:OkS ⟨h,(N:Nat),putW os1 i true,fa,go⟩:=okS_of hk.h (right_putW hR1 i true hiN) hk.n fun j hj ho=>by
      have ho:tb (putW os1 i true) j=true:=ho
      have hj:j < N:=by simpa using hj
      have hl:=hR1.long
      rw [tb_putW os1 i j true (by omega)] at ho
      by_cases e:j=i
      ·subst e;exact hus
      ·rw [if_neg e] at ho
       exact hk.apart (s:=⟨h,(N:Nat),os1,fa,go⟩) (by simpa using hj) ho
     have HK2:=Lib.hid hk2
     clear eW eG eW2 eG2 hk hk2 hx m hg
     obtain ⟨x0,x1,x2,x3,x4,x5,x6,x7,xf⟩:=id hx1
     go_wp2_with fail
     go_at_call 123
     refine (HPU.out _ _ _ _ _ m1.o.row hR1 hiN).mono ?_
     rintro e w2 ⟨A2,c2,rfl,o2,hb_w2⟩
     have hx2:=hx1.later hb_w2
     have mh:=m1.h.later hb_w2
     have hg2:=grF_later hg1 hb_w2
     have hs2:=hb_w2.size
     have o3:=o2.mono (B':=B) (by omega)
     clear hb_w2 x0 x1 x2 x3 x4 x5 x6 x7 xf
     have hx3:=(hx2.set4 (.int .i64 (N:Nat))).set5 (.slice A2 (putW os1 i true).length c2)
     have m3:=OwnsSc.mk (s:=⟨h,(N:Nat),putW os1 i true,fa,go⟩) ((mh.far (p:=⟨b,4,none⟩) hb (.int .i64 (N:Nat))).far (p:=⟨b,5,none⟩) hb (.slice A2 (putW os1 i true).length c2)) ((o3.far (p:=⟨b,4,none⟩) (.inl hb) (.int .i64 (N:Nat))).far (p:=⟨b,5,none⟩) (.inl hb) (.slice A2 (putW os1 i true).length c2))
     have hg3:=grF_set (grF_set hg2 4 (.int .i64 (N:Nat))) 5 (.slice A2 (putW os1 i true).length c2)
     obtain ⟨x0,x1,x2,x3,x4,x5,x6,x7,xf⟩:=id hx2
     clear hx1 m1 hg1 mh hg2 o2 o3
     go_wp2
     go_roundw
     case rel=>exact ⟨(i:Int) - 1,i,g + 1,A2,c2,putW os1 i true,by go_num,rfl,by go_num,by omega,HW2.out,HG2.out,HK2.out,hx3,m3,hg3⟩
     case measure=>simp [intOf];try omega
   ·have f3:decide ((g:Int) < (q:Int))=false:=decide_eq_false (by omega)
    have f4:decide (g < q)=false:=decide_eq_false hgq
    have hz:q - g=0:=by omega
    rw [hz] at eW eG
    have EW:os1=RW:=by rw [← eW];exact (relW_zero _ _ _).symm
    have EG:g=RG:=by rw [← eG];rw [relG_zero,Nat.add_zero]
    subst EW EG
    clear eW eG
    have hfu:IntKind.u64.wrap ((g:Nat):Int)=((g:Nat):Int):=IntWalk.u64_in _ (by omega)
    have hadd:=wrap_add go g
    have t2:=hx.set7 (.int .u64 (((go + g) % W64:Nat):Int))
    have o2:=OwnsSc.mk (s:=⟨h,(N:Nat),os1,fa,((go + g) % W64)⟩) (m.h.far (p:=⟨b,7,none⟩) hb (.int .u64 (((go + g) % W64:Nat):Int))) (m.o.far (p:=⟨b,7,none⟩) (.inl hb) (.int .u64 (((go + g) % W64:Nat):Int)))
    have g2:=grF_set hg 7 (.int .u64 (((go + g) % W64:Nat):Int))
    obtain ⟨x0,x1,x2,x3,x4,x5,x6,x7,xf⟩:=id hx
    go_wp2
    go_ret
    exact ⟨O1,c1,rfl,t2,o2,g2⟩
def FreshSi (w:World) (s':Sc) (g:Int) (y:Int) (e:Ending) (w':World):Prop:=∃ v O c,e=.returned (.tuple #[scV v O c s',.int .i64 g,.int .i64 y])∧OwnsSc w' w.heap.size v O s'∧Below w.heap.size w w'
def RelE (s:Sc) (q:Int) (s':Sc) (g:Int) (y:Int):Prop:=(¬ OkS s∧s'=sc0∧g=0∧y=2) ∨ (OkS s∧q < 0∧s'=s∧g=0∧y=1) ∨ (OkS s∧0 ≤ q∧s'=relSc s q.toNat∧g=(relG s.h.us s.n.toNat s.os q.toNat:Nat)∧y=0)
theorem RelE.ex (s:Sc) (q:Int):∃ s' g y,RelE s q s' g y:=by
 by_cases hk:OkS s
 ·by_cases hq:q < 0
  ·exact ⟨_,_,_,.inr (.inl ⟨hk,hq,rfl,rfl,rfl⟩)⟩
  ·exact ⟨_,_,_,.inr (.inr ⟨hk,by omega,rfl,rfl,rfl⟩)⟩
 ·exact ⟨_,_,_,.inl ⟨hk,rfl,rfl,rfl⟩⟩
def keeQ (s:Sc) (q:Int):Nat:=(s.n - (countTo s.os s.n.toNat:Nat) - q).toNat
def KeeE (s:Sc) (q:Int) (s':Sc) (g:Int) (y:Int):Prop:=(¬ OkS s∧s'=sc0∧g=0∧y=2) ∨ (OkS s∧q < 0∧s'=s∧g=0∧y=1) ∨ (OkS s∧0 ≤ q∧s'=relSc s (keeQ s q)∧g=(relG s.h.us s.n.toNat s.os (keeQ s q):Nat)∧y=0)
theorem KeeE.ex (s:Sc) (q:Int):∃ s' g y,KeeE s q s' g y:=by
 by_cases hk:OkS s
 ·by_cases hq:q < 0
  ·exact ⟨_,_,_,.inr (.inl ⟨hk,hq,rfl,rfl,rfl⟩)⟩
  ·exact ⟨_,_,_,.inr (.inr ⟨hk,by omega,rfl,rfl,rfl⟩)⟩
 ·exact ⟨_,_,_,.inl ⟨hk,rfl,rfl,rfl⟩⟩
theorem Two.off1 {w:World} {g:Nat} {u0 u1:Value} (h:Two w g u0 u1) {p:Addr} (hp:p.block ≠ g) (u:Value):Two (w.setCell p u) g u0 u1:=
 ⟨(cO _ _ _ _ (fun e=>hp (by rw [e]))).trans h.c0,(cO _ _ _ _ (fun e=>hp (by rw [e]))).trans h.c1,fun i=>by rw [World.frozen?_setCell];exact h.fr i⟩
section
variable {w:World} {v:Hv} {O:Option Addr} {s:Sc} (co:Nat)
set_option maxHeartbeats 4000000 in
theorem frelease_any (hz:Sizes w) (m:SM w v O s) (hs:Short s.h) (hnil:v.V=none → v.cv=0) (q:Int) (hq:-9223372036854775808 ≤ q∧q ≤ 9223372036854775807) (s':Sc) (g y:Int) (hE:RelE s q s' g y) :
  Calls Tryz.prog 53 #[scV v O co s,.int .i64 q] w fun e w'=>FreshSi w s' g y e w':=by
 unfold FreshSi
 rcases hE with ⟨hk,rfl,rfl,rfl⟩ | ⟨hk,h0,hss,rfl,rfl⟩ | ⟨hk,h0,he,hge,rfl⟩
 ·have HV:=Lib.hid fun (w:World) z m=>fview_bad (w:=w) (v:=v) (O:=O) (s:=s) co z m hs hk
  clear hk hs
  unfold scV at HV ⊢
  go_enter Tryz.func53,Tryz.ntmps53
  go_wp2_with fail
  go_at_call 134
  refine (HV.out _ (hz.later bX) (m.later bX)).mono ?_
  rintro e w1 ⟨rfl,hb_w1⟩
  obtain ⟨hc_w1,hf_w1⟩:=bcell hb_w1;have hz_w1_w_0:w.heap.size < w1.heap.size:=lY hb_w1.size;have hz_w1_w_1:w.heap.size + 1 < w1.heap.size:=lY hb_w1.size;have hs_w1:=hb_w1.size;(try simp only [zZ] at hs_w1)
  have b1:Below w.heap.size w w1:=bX
  have t0:=(E8.new (w.alloc (.cells #[.slice v.A s.h.ws.length v.ca,.int .i64 s.h.n,.slice v.U s.h.us.length v.cu,.slice v.V s.h.l.length v.cv,.int .i64 s.n,.slice O s.os.length co,.int .u64 (s.fa:Nat),.int .u64 (s.go:Nat)] 79)) (.slice none 0 0) (.int .i64 0) (.slice none 0 0) (.slice none 0 0) (.int .i64 0) (.slice none 0 0) (.int .u64 0) (.int .u64 0) 79).later hb_w1
  simp only [zA] at t0
  obtain ⟨y0,y1,y2,y3,y4,y5,y6,y7,yf⟩:=id t0
  have ylt:=t0.lt
  unfold hv0 sc0 hp0 at *
  simp only at *
  have u0:=(t0.all (.slice none 0 0) (.int .i64 0) (.slice none 0 0) (.slice none 0 0) (.int .i64 0) (.slice none 0 0) (.int .u64 0) (.int .u64 0)).later ((Below.refl _ _).alloc (Nat.le_refl _) (.cells #[.slice none 0 0,.int .i64 0,.slice none 0 0,.slice none 0 0,.int .i64 0,.slice none 0 0,.int .u64 0,.int .u64 0] 192))
  have b2:=(below8 (g:=w.heap.size + 1) b1 (by omega) (.slice none 0 0) (.int .i64 0) (.slice none 0 0) (.slice none 0 0) (.int .i64 0) (.slice none 0 0) (.int .u64 0) (.int .u64 0)).alloc (by rw [size8];omega) (.cells #[.slice none 0 0,.int .i64 0,.slice none 0 0,.slice none 0 0,.int .i64 0,.slice none 0 0,.int .u64 0,.int .u64 0] 192)
  clear hc_w1 hf_w1
  go_wp2
  exact bodyPost_ret (res_ss3 rfl rfl u0) rfl ⟨hv0,none,0,rfl,OwnsSc.zero _ _,b2⟩
 ·have hss:=hss.symm
  subst hss
  have HV:=Lib.hid fun (w:World) z m=>fview_ok (w:=w) (v:=v) (O:=O) (s:=s) co z m hk
  have HT:=Lib.hid fun (w:World) m=>ftwin_any (w:=w) (v:=v) (O:=O) (s:=s) co m hk hnil
  clear hk hs
  unfold scV at HV HT ⊢
  have f1:decide (q < 0)=true:=decide_eq_true h0
  go_enter Tryz.func53,Tryz.ntmps53
  go_wp2_with fail
  go_at_call 134
  refine (HV.out _ (hz.later bX) (m.later bX)).mono ?_
  rintro e w1 ⟨rfl,hb_w1⟩
  obtain ⟨hc_w1,hf_w1⟩:=bcell hb_w1;have hz_w1_w_0:w.heap.size < w1.heap.size:=lY hb_w1.size;have hz_w1_w_1:w.heap.size + 1 < w1.heap.size:=lY hb_w1.size;have hs_w1:=hb_w1.size;(try simp only [zZ] at hs_w1)
  have b1:Below w.heap.size w w1:=bX
  have t0:=(E8.new (w.alloc (.cells #[.slice v.A s.h.ws.length v.ca,.int .i64 s.h.n,.slice v.U s.h.us.length v.cu,.slice v.V s.h.l.length v.cv,.int .i64 s.n,.slice O s.os.length co,.int .u64 (s.fa:Nat),.int .u64 (s.go:Nat)] 79)) (.slice none 0 0) (.int .i64 0) (.slice none 0 0) (.slice none 0 0) (.int .i64 0) (.slice none 0 0) (.int .u64 0) (.int .u64 0) 79).later hb_w1
  simp only [zA] at t0
  have t1:=E8.new w1 (.slice v.A s.h.ws.length v.ca) (.int .i64 s.h.n) (.slice v.U s.h.us.length v.cu) (.slice v.V s.h.l.length v.cv) (.int .i64 s.n) (.slice O s.os.length co) (.int .u64 (s.fa:Nat)) (.int .u64 (s.go:Nat)) 192
  have t0:=t0.later ((Below.refl _ _).alloc (Nat.le_refl _) (.cells #[.slice v.A s.h.ws.length v.ca,.int .i64 s.h.n,.slice v.U s.h.us.length v.cu,.slice v.V s.h.l.length v.cv,.int .i64 s.n,.slice O s.os.length co,.int .u64 (s.fa:Nat),.int .u64 (s.go:Nat)] 192))
  have zt:=t0.lt
  clear hc_w1 hf_w1
  go_wp2_with fail
  go_at_call 135
  refine (HT.out _ ((m.later b1).later bX)).mono ?_
  rintro e w2 ⟨v2,O2,c2,rfl,o2,hb_w2⟩
  have t0:=t0.later hb_w2
  have t1:=t1.later hb_w2
  have s2:=hb_w2.size
  simp only [zA] at o2 s2 zt
  have b2:Below w.heap.size w w2:=bX
  have sw:=b1.size
  have t1':=t1.all (.slice v2.A s.h.ws.length v2.ca) (.int .i64 s.h.n) (.slice v2.U s.h.us.length v2.cu) (.slice v2.V s.h.l.length v2.cv) (.int .i64 s.n) (.slice O2 s.os.length c2) (.int .u64 (s.fa:Nat)) (.int .u64 (s.go:Nat))
  have t0':=t0.over (g:=w1.heap.size) (by omega) (.slice v2.A s.h.ws.length v2.ca) (.int .i64 s.h.n) (.slice v2.U s.h.us.length v2.cu) (.slice v2.V s.h.l.length v2.cv) (.int .i64 s.n) (.slice O2 s.os.length c2) (.int .u64 (s.fa:Nat)) (.int .u64 (s.go:Nat))
  have o2':=o2.over8 (g:=w1.heap.size) (by omega) (.slice v2.A s.h.ws.length v2.ca) (.int .i64 s.h.n) (.slice v2.U s.h.us.length v2.cu) (.slice v2.V s.h.l.length v2.cv) (.int .i64 s.n) (.slice O2 s.os.length c2) (.int .u64 (s.fa:Nat)) (.int .u64 (s.go:Nat))
  have b2':=below8 (g:=w1.heap.size) b2 (by omega) (.slice v2.A s.h.ws.length v2.ca) (.int .i64 s.h.n) (.slice v2.U s.h.us.length v2.cu) (.slice v2.V s.h.l.length v2.cv) (.int .i64 s.n) (.slice O2 s.os.length c2) (.int .u64 (s.fa:Nat)) (.int .u64 (s.go:Nat))
  obtain ⟨x0,x1,x2,x3,x4,x5,x6,x7,xf⟩:=id t1
  obtain ⟨y0,y1,y2,y3,y4,y5,y6,y7,yf⟩:=id t0
  go_wp2
  exact bodyPost_ret (res_ss3 rfl rfl (t0'.all (.slice v2.A s.h.ws.length v2.ca) (.int .i64 s.h.n) (.slice v2.U s.h.us.length v2.cu) (.slice v2.V s.h.l.length v2.cv) (.int .i64 s.n) (.slice O2 s.os.length c2) (.int .u64 (s.fa:Nat)) (.int .u64 (s.go:Nat)))) rfl ⟨v2,O2,c2,rfl,(o2'.over8 (g:=w.heap.size + 1) (by omega) (.slice v2.A s.h.ws.length v2.ca) (.int .i64 s.h.n) (.slice v2.U s.h.us.length v2.cu) (.slice v2.V s.h.l.length v2.cv) (.int .i64 s.n) (.slice O2 s.os.length c2) (.int .u64 (s.fa:Nat)) (.int .u64 (s.go:Nat))).mono (by omega),below8 (g:=w.heap.size + 1) b2' (by omega) (.slice v2.A s.h.ws.length v2.ca) (.int .i64 s.h.n) (.slice v2.U s.h.us.length v2.cu) (.slice v2.V s.h.l.length v2.cv) (.int .i64 s.n) (.slice O2 s.os.length c2) (.int .u64 (s.fa:Nat)) (.int .u64 (s.go:Nat))⟩
 ·have HV:=Lib.hid fun (w:World) z m=>fview_ok (w:=w) (v:=v) (O:=O) (s:=s) co z m hk
  have HT:=Lib.hid fun (w:World) m=>ftwin_any (w:=w) (v:=v) (O:=O) (s:=s) co m hk hnil
  have f1:decide (q < 0)=false:=decide_eq_false (by omega)
  obtain ⟨Q,rfl⟩:∃ Q:Nat,q=(Q:Int):=⟨q.toNat,by omega⟩
  simp only [Int.toNat_natCast] at he hge
  have HRL:=Lib.hid fun (w:World) (b B:Nat) (v:Hv) (O:Option Addr) (co:Nat) hx m hb hB=>frel_any (w:=w) (b:=b) (B:=B) (v:=v) (O:=O) (co:=co) (s:=s) hx m hb hB hk Q (by omega) s' he
  rw [← hge] at HRL
  clear hk hs he hge
  unfold scV at HV HT ⊢
  go_enter Tryz.func53,Tryz.ntmps53
  go_wp2_with fail
  go_at_call 134
  refine (HV.out _ (hz.later bX) (m.later bX)).mono ?_
  rintro e w1 ⟨rfl,hb_w1⟩
  obtain ⟨hc_w1,hf_w1⟩:=bcell hb_w1;have hz_w1_w_0:w.heap.size < w1.heap.size:=lY hb_w1.size;have hz_w1_w_1:w.heap.size + 1 < w1.heap.size:=lY hb_w1.size;have hs_w1:=hb_w1.size;(try simp only [zZ] at hs_w1)
  have b1:Below w.heap.size w w1:=bX
  have t0:=(E8.new (w.alloc (.cells #[.slice v.A s.h.ws.length v.ca,.int .i64 s.h.n,.slice v.U s.h.us.length v.cu,.slice v.V s.h.l.length v.cv,.int .i64 s.n,.slice O s.os.length co,.int .u64 (s.fa:Nat),.int .u64 (s.go:Nat)] 79)) (.slice none 0 0) (.int .i64 0) (.slice none 0 0) (.slice none 0 0) (.int .i64 0) (.slice none 0 0) (.int .u64 0) (.int .u64 0) 79).later hb_w1
  simp only [zA] at t0
  have t1:=E8.new w1 (.slice v.A s.h.ws.length v.ca) (.int .i64 s.h.n) (.slice v.U s.h.us.length v.cu) (.slice v.V s.h.l.length v.cv) (.int .i64 s.n) (.slice O s.os.length co) (.int .u64 (s.fa:Nat)) (.int .u64 (s.go:Nat)) 192
  have t0:=t0.later ((Below.refl _ _).alloc (Nat.le_refl _) (.cells #[.slice v.A s.h.ws.length v.ca,.int .i64 s.h.n,.slice v.U s.h.us.length v.cu,.slice v.V s.h.l.length v.cv,.int .i64 s.n,.slice O s.os.length co,.int .u64 (s.fa:Nat),.int .u64 (s.go:Nat)] 192))
  have zt:=t0.lt
  clear hc_w1 hf_w1
  go_wp2_with fail
  go_at_call 135
  refine (HT.out _ ((m.later b1).later bX)).mono ?_
  rintro e w2 ⟨v2,O2,c2,rfl,o2,hb_w2⟩
  have t0:=t0.later hb_w2
  have t1:=t1.later hb_w2
  have s2:=hb_w2.size
  simp only [zA] at o2 s2 zt
  have b2:Below w.heap.size w w2:=bX
  have sw:=b1.size
  have t1':=t1.all (.slice v2.A s.h.ws.length v2.ca) (.int .i64 s.h.n) (.slice v2.U s.h.us.length v2.cu) (.slice v2.V s.h.l.length v2.cv) (.int .i64 s.n) (.slice O2 s.os.length c2) (.int .u64 (s.fa:Nat)) (.int .u64 (s.go:Nat))
  have t0':=t0.over (g:=w1.heap.size) (by omega) (.slice v2.A s.h.ws.length v2.ca) (.int .i64 s.h.n) (.slice v2.U s.h.us.length v2.cu) (.slice v2.V s.h.l.length v2.cv) (.int .i64 s.n) (.slice O2 s.os.length c2) (.int .u64 (s.fa:Nat)) (.int .u64 (s.go:Nat))
  have o2':=o2.over8 (g:=w1.heap.size) (by omega) (.slice v2.A s.h.ws.length v2.ca) (.int .i64 s.h.n) (.slice v2.U s.h.us.length v2.cu) (.slice v2.V s.h.l.length v2.cv) (.int .i64 s.n) (.slice O2 s.os.length c2) (.int .u64 (s.fa:Nat)) (.int .u64 (s.go:Nat))
  have b2':=below8 (g:=w1.heap.size) b2 (by omega) (.slice v2.A s.h.ws.length v2.ca) (.int .i64 s.h.n) (.slice v2.U s.h.us.length v2.cu) (.slice v2.V s.h.l.length v2.cv) (.int .i64 s.n) (.slice O2 s.os.length c2) (.int .u64 (s.fa:Nat)) (.int .u64 (s.go:Nat))
  obtain ⟨x0,x1,x2,x3,x4,x5,x6,x7,xf⟩:=id t1
  obtain ⟨y0,y1,y2,y3,y4,y5,y6,y7,yf⟩:=id t0
  go_wp2_with fail
  generalize hW:((((((((w2.setCell ⟨w1.heap.size,0,none⟩ (.slice v2.A s.h.ws.length v2.ca)).setCell ⟨w1.heap.size,1,none⟩ (.int .i64 s.h.n)).setCell ⟨w1.heap.size,2,none⟩ (.slice v2.U s.h.us.length v2.cu)).setCell ⟨w1.heap.size,3,none⟩ (.slice v2.V s.h.l.length v2.cv)).setCell ⟨w1.heap.size,4,none⟩ (.int .i64 s.n)).setCell ⟨w1.heap.size,5,none⟩ (.slice O2 s.os.length c2)).setCell ⟨w1.heap.size,6,none⟩ (.int .u64 (s.fa:Nat))).setCell ⟨w1.heap.size,7,none⟩ (.int .u64 (s.go:Nat)))=W at *
  have sW:W.heap.size=w2.heap.size:=by rw [← hW];exact size8 _ _ _ _ _ _ _ _ _ _
  clear hW t0 t1 o2 b2 hb_w2 x0 x1 x2 x3 x4 x5 x6 x7 xf y0 y1 y2 y3 y4 y5 y6 y7 yf
  go_at_call 138
  refine (HRL.out _ _ (w1.heap.size + 1) _ _ _ t1' o2' (by omega) (by omega)).mono ?_
  rintro e w3 ⟨O3,c3,rfl,t3,o3,hg3⟩
  have s3:=hg3.size
  have t4:=t0'.grown hg3 (by intro e;injection e with e;omega)
  have b3:=b2'.grown hg3 (by omega) (fun k hk=>by injection hk with hk;omega)
  have sw1:=hb_w1.size
  obtain ⟨x0,x1,x2,x3,x4,x5,x6,x7,xf⟩:=id t3
  obtain ⟨y0,y1,y2,y3,y4,y5,y6,y7,yf⟩:=id t4
  go_wp2
  exact bodyPost_ret (res_ss3 rfl rfl (t4.all (.slice v2.A s'.h.ws.length v2.ca) (.int .i64 s'.h.n) (.slice v2.U s'.h.us.length v2.cu) (.slice v2.V s'.h.l.length v2.cv) (.int .i64 s'.n) (.slice O3 s'.os.length c3) (.int .u64 (s'.fa:Nat)) (.int .u64 (s'.go:Nat)))) rfl ⟨v2,O3,c3,rfl,(o3.over8 (g:=w.heap.size + 1) (by omega) (.slice v2.A s'.h.ws.length v2.ca) (.int .i64 s'.h.n) (.slice v2.U s'.h.us.length v2.cu) (.slice v2.V s'.h.l.length v2.cv) (.int .i64 s'.n) (.slice O3 s'.os.length c3) (.int .u64 (s'.fa:Nat)) (.int .u64 (s'.go:Nat))).mono (by omega),below8 (g:=w.heap.size + 1) b3 (by omega) (.slice v2.A s'.h.ws.length v2.ca) (.int .i64 s'.h.n) (.slice v2.U s'.h.us.length v2.cu) (.slice v2.V s'.h.l.length v2.cv) (.int .i64 s'.n) (.slice O3 s'.os.length c3) (.int .u64 (s'.fa:Nat)) (.int .u64 (s'.go:Nat))⟩
set_option maxHeartbeats 4000000 in
theorem fkeep_any (hz:Sizes w) (m:SM w v O s) (hs:Short s.h) (hnil:v.V=none → v.cv=0) (q:Int) (hq:-9223372036854775808 ≤ q∧q ≤ 9223372036854775807) (s':Sc) (g y:Int) (hE:KeeE s q s' g y) :
  Calls Tryz.prog 55 #[scV v O co s,.int .i64 q] w fun e w'=>FreshSi w s' g y e w':=by
 unfold FreshSi
 rcases hE with ⟨hk,rfl,rfl,rfl⟩ | ⟨hk,h0,hss,rfl,rfl⟩ | ⟨hk,h0,he,hge,rfl⟩
 ·have HV:=Lib.hid fun (w:World) z m=>fview_bad (w:=w) (v:=v) (O:=O) (s:=s) co z m hs hk
  clear hk hs
  unfold scV at HV ⊢
  go_enter Tryz.func55,Tryz.ntmps55
  go_wp2_with fail
  go_at_call 134
  refine (HV.out _ (hz.later bX) (m.later bX)).mono ?_
  rintro e w1 ⟨rfl,hb_w1⟩
  obtain ⟨hc_w1,hf_w1⟩:=bcell hb_w1;have hz_w1_w_0:w.heap.size < w1.heap.size:=lY hb_w1.size;have hz_w1_w_1:w.heap.size + 1 < w1.heap.size:=lY hb_w1.size;have hs_w1:=hb_w1.size;(try simp only [zZ] at hs_w1)
  have b1:Below w.heap.size w w1:=bX
  have t0:=(E8.new (w.alloc (.cells #[.slice v.A s.h.ws.length v.ca,.int .i64 s.h.n,.slice v.U s.h.us.length v.cu,.slice v.V s.h.l.length v.cv,.int .i64 s.n,.slice O s.os.length co,.int .u64 (s.fa:Nat),.int .u64 (s.go:Nat)] 79)) (.slice none 0 0) (.int .i64 0) (.slice none 0 0) (.slice none 0 0) (.int .i64 0) (.slice none 0 0) (.int .u64 0) (.int .u64 0) 79).later hb_w1
  simp only [zA] at t0
  obtain ⟨y0,y1,y2,y3,y4,y5,y6,y7,yf⟩:=id t0
  have ylt:=t0.lt
  unfold hv0 sc0 hp0 at *
  simp only at *
  have u0:=(t0.all (.slice none 0 0) (.int .i64 0) (.slice none 0 0) (.slice none 0 0) (.int .i64 0) (.slice none 0 0) (.int .u64 0) (.int .u64 0)).later ((Below.refl _ _).alloc (Nat.le_refl _) (.cells #[.slice none 0 0,.int .i64 0,.slice none 0 0,.slice none 0 0,.int .i64 0,.slice none 0 0,.int .u64 0,.int .u64 0] 192))
  have b2:=(below8 (g:=w.heap.size + 1) b1 (by omega) (.slice none 0 0) (.int .i64 0) (.slice none 0 0) (.slice none 0 0) (.int .i64 0) (.slice none 0 0) (.int .u64 0) (.int .u64 0)).alloc (by rw [size8];omega) (.cells #[.slice none 0 0,.int .i64 0,.slice none 0 0,.slice none 0 0,.int .i64 0,.slice none 0 0,.int .u64 0,.int .u64 0] 192)
  clear hc_w1 hf_w1
  go_wp2
  exact bodyPost_ret (res_ss3 rfl rfl u0) rfl ⟨hv0,none,0,rfl,OwnsSc.zero _ _,b2⟩
 ·have hss:=hss.symm
  subst hss
  have HV:=Lib.hid fun (w:World) z m=>fview_ok (w:=w) (v:=v) (O:=O) (s:=s) co z m hk
  have HT:=Lib.hid fun (w:World) m=>ftwin_any (w:=w) (v:=v) (O:=O) (s:=s) co m hk hnil
  clear hk hs
  unfold scV at HV HT ⊢
  have f1:decide (q < 0)=true:=decide_eq_true h0
  go_enter Tryz.func55,Tryz.ntmps55
  go_wp2_with fail
  go_at_call 134
  refine (HV.out _ (hz.later bX) (m.later bX)).mono ?_
  rintro e w1 ⟨rfl,hb_w1⟩
  obtain ⟨hc_w1,hf_w1⟩:=bcell hb_w1;have hz_w1_w_0:w.heap.size < w1.heap.size:=lY hb_w1.size;have hz_w1_w_1:w.heap.size + 1 < w1.heap.size:=lY hb_w1.size;have hs_w1:=hb_w1.size;(try simp only [zZ] at hs_w1)
  have b1:Below w.heap.size w w1:=bX
  have t0:=(E8.new (w.alloc (.cells #[.slice v.A s.h.ws.length v.ca,.int .i64 s.h.n,.slice v.U s.h.us.length v.cu,.slice v.V s.h.l.length v.cv,.int .i64 s.n,.slice O s.os.length co,.int .u64 (s.fa:Nat),.int .u64 (s.go:Nat)] 79)) (.slice none 0 0) (.int .i64 0) (.slice none 0 0) (.slice none 0 0) (.int .i64 0) (.slice none 0 0) (.int .u64 0) (.int .u64 0) 79).later hb_w1
  simp only [zA] at t0
  have t1:=E8.new w1 (.slice v.A s.h.ws.length v.ca) (.int .i64 s.h.n) (.slice v.U s.h.us.length v.cu) (.slice v.V s.h.l.length v.cv) (.int .i64 s.n) (.slice O s.os.length co) (.int .u64 (s.fa:Nat)) (.int .u64 (s.go:Nat)) 192
  have t0:=t0.later ((Below.refl _ _).alloc (Nat.le_refl _) (.cells #[.slice v.A s.h.ws.length v.ca,.int .i64 s.h.n,.slice v.U s.h.us.length v.cu,.slice v.V s.h.l.length v.cv,.int .i64 s.n,.slice O s.os.length co,.int .u64 (s.fa:Nat),.int .u64 (s.go:Nat)] 192))
  have zt:=t0.lt
  clear hc_w1 hf_w1
  go_wp2_with fail
  go_at_call 135
  refine (HT.out _ ((m.later b1).later bX)).mono ?_
  rintro e w2 ⟨v2,O2,c2,rfl,o2,hb_w2⟩
  have t0:=t0.later hb_w2
  have t1:=t1.later hb_w2
  have s2:=hb_w2.size
  simp only [zA] at o2 s2 zt
  have b2:Below w.heap.size w w2:=bX
  have sw:=b1.size
  have t1':=t1.all (.slice v2.A s.h.ws.length v2.ca) (.int .i64 s.h.n) (.slice v2.U s.h.us.length v2.cu) (.slice v2.V s.h.l.length v2.cv) (.int .i64 s.n) (.slice O2 s.os.length c2) (.int .u64 (s.fa:Nat)) (.int .u64 (s.go:Nat))
  have t0':=t0.over (g:=w1.heap.size) (by omega) (.slice v2.A s.h.ws.length v2.ca) (.int .i64 s.h.n) (.slice v2.U s.h.us.length v2.cu) (.slice v2.V s.h.l.length v2.cv) (.int .i64 s.n) (.slice O2 s.os.length c2) (.int .u64 (s.fa:Nat)) (.int .u64 (s.go:Nat))
  have o2':=o2.over8 (g:=w1.heap.size) (by omega) (.slice v2.A s.h.ws.length v2.ca) (.int .i64 s.h.n) (.slice v2.U s.h.us.length v2.cu) (.slice v2.V s.h.l.length v2.cv) (.int .i64 s.n) (.slice O2 s.os.length c2) (.int .u64 (s.fa:Nat)) (.int .u64 (s.go:Nat))
  have b2':=below8 (g:=w1.heap.size) b2 (by omega) (.slice v2.A s.h.ws.length v2.ca) (.int .i64 s.h.n) (.slice v2.U s.h.us.length v2.cu) (.slice v2.V s.h.l.length v2.cv) (.int .i64 s.n) (.slice O2 s.os.length c2) (.int .u64 (s.fa:Nat)) (.int .u64 (s.go:Nat))
  obtain ⟨x0,x1,x2,x3,x4,x5,x6,x7,xf⟩:=id t1
  obtain ⟨y0,y1,y2,y3,y4,y5,y6,y7,yf⟩:=id t0
  go_wp2
  exact bodyPost_ret (res_ss3 rfl rfl (t0'.all (.slice v2.A s.h.ws.length v2.ca) (.int .i64 s.h.n) (.slice v2.U s.h.us.length v2.cu) (.slice v2.V s.h.l.length v2.cv) (.int .i64 s.n) (.slice O2 s.os.length c2) (.int .u64 (s.fa:Nat)) (.int .u64 (s.go:Nat)))) rfl ⟨v2,O2,c2,rfl,(o2'.over8 (g:=w.heap.size + 1) (by omega) (.slice v2.A s.h.ws.length v2.ca) (.int .i64 s.h.n) (.slice v2.U s.h.us.length v2.cu) (.slice v2.V s.h.l.length v2.cv) (.int .i64 s.n) (.slice O2 s.os.length c2) (.int .u64 (s.fa:Nat)) (.int .u64 (s.go:Nat))).mono (by omega),below8 (g:=w.heap.size + 1) b2' (by omega) (.slice v2.A s.h.ws.length v2.ca) (.int .i64 s.h.n) (.slice v2.U s.h.us.length v2.cu) (.slice v2.V s.h.l.length v2.cv) (.int .i64 s.n) (.slice O2 s.os.length c2) (.int .u64 (s.fa:Nat)) (.int .u64 (s.go:Nat))⟩
 ·have HV:=Lib.hid fun (w:World) z m=>fview_ok (w:=w) (v:=v) (O:=O) (s:=s) co z m hk
  have HT:=Lib.hid fun (w:World) m=>ftwin_any (w:=w) (v:=v) (O:=O) (s:=s) co m hk hnil
  have f1:decide (q < 0)=false:=decide_eq_false (by omega)
  have hnn:=hk.nn
  have hcl:=countTo_le s.os s.n.toNat
  have HPR:=Lib.hid fun (w:World) (v:Hv) (O:Option Addr) (co:Nat) m=>fpresent_any (w:=w) (v:=v) (O:=O) (s:=s) co m hk
  unfold scV at HPR
  obtain ⟨Q,hQ⟩:∃ Q,Hid (keeQ s q=Q):=⟨_,Lib.hid rfl⟩
  rw [hQ.out] at he hge
  have hQm:Hid (max (s.n - (countTo s.os s.n.toNat:Nat) - q) 0=((Q:Nat):Int)):=Lib.hid (by rw [← hQ.out];unfold keeQ;omega)
  have hQl:Q ≤ 4096:=by rw [← hQ.out];unfold keeQ;omega
  skip
  have HRL:=Lib.hid fun (w:World) (b B:Nat) (v:Hv) (O:Option Addr) (co:Nat) hx m hb hB=>frel_any (w:=w) (b:=b) (B:=B) (v:=v) (O:=O) (co:=co) (s:=s) hx m hb hB hk Q (by omega) s' he
  rw [← hge] at HRL
  obtain ⟨pr,hpr⟩:∃ pr,Hid (s.n - (countTo s.os s.n.toNat:Nat)=pr):=⟨_,Lib.hid rfl⟩
  rw [hpr.out] at HPR hQm
  have hprb:0 ≤ pr∧pr ≤ 4096:=by have:=hpr.out;omega
  have hmx:=hQm.out
  clear hk hs he hge
  unfold scV at HV HT ⊢
  go_enter Tryz.func55,Tryz.ntmps55
  go_wp2_with fail
  go_at_call 134
  refine (HV.out _ (hz.later bX) (m.later bX)).mono ?_
  rintro e w1 ⟨rfl,hb_w1⟩
  obtain ⟨hc_w1,hf_w1⟩:=bcell hb_w1;have hz_w1_w_0:w.heap.size < w1.heap.size:=lY hb_w1.size;have hz_w1_w_1:w.heap.size + 1 < w1.heap.size:=lY hb_w1.size;have hs_w1:=hb_w1.size;(try simp only [zZ] at hs_w1)
  have b1:Below w.heap.size w w1:=bX
  have t0:=(E8.new (w.alloc (.cells #[.slice v.A s.h.ws.length v.ca,.int .i64 s.h.n,.slice v.U s.h.us.length v.cu,.slice v.V s.h.l.length v.cv,.int .i64 s.n,.slice O s.os.length co,.int .u64 (s.fa:Nat),.int .u64 (s.go:Nat)] 79)) (.slice none 0 0) (.int .i64 0) (.slice none 0 0) (.slice none 0 0) (.int .i64 0) (.slice none 0 0) (.int .u64 0) (.int .u64 0) 79).later hb_w1
  simp only [zA] at t0
  have t1:=E8.new w1 (.slice v.A s.h.ws.length v.ca) (.int .i64 s.h.n) (.slice v.U s.h.us.length v.cu) (.slice v.V s.h.l.length v.cv) (.int .i64 s.n) (.slice O s.os.length co) (.int .u64 (s.fa:Nat)) (.int .u64 (s.go:Nat)) 192
  have t0:=t0.later ((Below.refl _ _).alloc (Nat.le_refl _) (.cells #[.slice v.A s.h.ws.length v.ca,.int .i64 s.h.n,.slice v.U s.h.us.length v.cu,.slice v.V s.h.l.length v.cv,.int .i64 s.n,.slice O s.os.length co,.int .u64 (s.fa:Nat),.int .u64 (s.go:Nat)] 192))
  have zt:=t0.lt
  clear hc_w1 hf_w1
  go_wp2_with fail
  go_at_call 135
  refine (HT.out _ ((m.later b1).later bX)).mono ?_
  rintro e w2 ⟨v2,O2,c2,rfl,o2,hb_w2⟩
  have t0:=t0.later hb_w2
  have t1:=t1.later hb_w2
  have s2:=hb_w2.size
  simp only [zA] at o2 s2 zt
  have b2:Below w.heap.size w w2:=bX
  have sw:=b1.size
  have t1':=t1.all (.slice v2.A s.h.ws.length v2.ca) (.int .i64 s.h.n) (.slice v2.U s.h.us.length v2.cu) (.slice v2.V s.h.l.length v2.cv) (.int .i64 s.n) (.slice O2 s.os.length c2) (.int .u64 (s.fa:Nat)) (.int .u64 (s.go:Nat))
  have t0':=t0.over (g:=w1.heap.size) (by omega) (.slice v2.A s.h.ws.length v2.ca) (.int .i64 s.h.n) (.slice v2.U s.h.us.length v2.cu) (.slice v2.V s.h.l.length v2.cv) (.int .i64 s.n) (.slice O2 s.os.length c2) (.int .u64 (s.fa:Nat)) (.int .u64 (s.go:Nat))
  have o2':=o2.over8 (g:=w1.heap.size) (by omega) (.slice v2.A s.h.ws.length v2.ca) (.int .i64 s.h.n) (.slice v2.U s.h.us.length v2.cu) (.slice v2.V s.h.l.length v2.cv) (.int .i64 s.n) (.slice O2 s.os.length c2) (.int .u64 (s.fa:Nat)) (.int .u64 (s.go:Nat))
  have b2':=below8 (g:=w1.heap.size) b2 (by omega) (.slice v2.A s.h.ws.length v2.ca) (.int .i64 s.h.n) (.slice v2.U s.h.us.length v2.cu) (.slice v2.V s.h.l.length v2.cv) (.int .i64 s.n) (.slice O2 s.os.length c2) (.int .u64 (s.fa:Nat)) (.int .u64 (s.go:Nat))
  obtain ⟨x0,x1,x2,x3,x4,x5,x6,x7,xf⟩:=id t1
  obtain ⟨y0,y1,y2,y3,y4,y5,y6,y7,yf⟩:=id t0
  go_wp2_with fail
  generalize hW:((((((((w2.setCell ⟨w1.heap.size,0,none⟩ (.slice v2.A s.h.ws.length v2.ca)).setCell ⟨w1.heap.size,1,none⟩ (.int .i64 s.h.n)).setCell ⟨w1.heap.size,2,none⟩ (.slice v2.U s.h.us.length v2.cu)).setCell ⟨w1.heap.size,3,none⟩ (.slice v2.V s.h.l.length v2.cv)).setCell ⟨w1.heap.size,4,none⟩ (.int .i64 s.n)).setCell ⟨w1.heap.size,5,none⟩ (.slice O2 s.os.length c2)).setCell ⟨w1.heap.size,6,none⟩ (.int .u64 (s.fa:Nat))).setCell ⟨w1.heap.size,7,none⟩ (.int .u64 (s.go:Nat)))=W at *
  have sW:W.heap.size=w2.heap.size:=by rw [← hW];exact size8 _ _ _ _ _ _ _ _ _ _
  clear hW t0 t1 o2 b2 hb_w2 x0 x1 x2 x3 x4 x5 x6 x7 xf y0 y1 y2 y3 y4 y5 y6 y7 yf
  go_at_call 140
  refine (HPR.out _ _ _ _ o2'.sm).mono ?_
  rintro e wP ⟨rfl,hb_wP⟩
  have t1':=t1'.later hb_wP
  have t0':=t0'.later hb_wP
  have o2':=o2'.later hb_wP
  have b2':=b2'.trans (hb_wP.mono b2'.size)
  have sP:=hb_wP.size
  clear hb_wP
  clear hmx
  go_wp2_with fail
  ·obtain rfl:Q=0:=by have:=hQm.out;omega
   have z0:((0:Nat):Int)=0:=rfl
   rw [z0] at HRL
   go_at_call 138
   refine (HRL.out _ _ (w1.heap.size + 1) _ _ _ t1' o2' (by omega) (by omega)).mono ?_
   rintro e w3 ⟨O3,c3,rfl,t3,o3,hg3⟩
   have s3:=hg3.size
   have t4:=t0'.grown hg3 (by intro e;injection e with e;omega)
   have b3:=b2'.grown hg3 (by omega) (fun k hk=>by injection hk with hk;omega)
   have sw1:=hb_w1.size
   obtain ⟨x0,x1,x2,x3,x4,x5,x6,x7,xf⟩:=id t3
   obtain ⟨y0,y1,y2,y3,y4,y5,y6,y7,yf⟩:=id t4
   go_wp2
   exact bodyPost_ret (res_ss3 rfl rfl (t4.all (.slice v2.A s'.h.ws.length v2.ca) (.int .i64 s'.h.n) (.slice v2.U s'.h.us.length v2.cu) (.slice v2.V s'.h.l.length v2.cv) (.int .i64 s'.n) (.slice O3 s'.os.length c3) (.int .u64 (s'.fa:Nat)) (.int .u64 (s'.go:Nat)))) rfl ⟨v2,O3,c3,rfl,(o3.over8 (g:=w.heap.size + 1) (by omega) (.slice v2.A s'.h.ws.length v2.ca) (.int .i64 s'.h.n) (.slice v2.U s'.h.us.length v2.cu) (.slice v2.V s'.h.l.length v2.cv) (.int .i64 s'.n) (.slice O3 s'.os.length c3) (.int .u64 (s'.fa:Nat)) (.int .u64 (s'.go:Nat))).mono (by omega),below8 (g:=w.heap.size + 1) b3 (by omega) (.slice v2.A s'.h.ws.length v2.ca) (.int .i64 s'.h.n) (.slice v2.U s'.h.us.length v2.cu) (.slice v2.V s'.h.l.length v2.cv) (.int .i64 s'.n) (.slice O3 s'.os.length c3) (.int .u64 (s'.fa:Nat)) (.int .u64 (s'.go:Nat))⟩
  ·have eq:pr - q=(Q:Int):=by have:=hQm.out;omega
   rw [← eq] at HRL
   go_at_call 138
   refine (HRL.out _ _ (w1.heap.size + 1) _ _ _ t1' o2' (by omega) (by omega)).mono ?_
   rintro e w3 ⟨O3,c3,rfl,t3,o3,hg3⟩
   have s3:=hg3.size
   have t4:=t0'.grown hg3 (by intro e;injection e with e;omega)
   have b3:=b2'.grown hg3 (by omega) (fun k hk=>by injection hk with hk;omega)
   have sw1:=hb_w1.size
   obtain ⟨x0,x1,x2,x3,x4,x5,x6,x7,xf⟩:=id t3
   obtain ⟨y0,y1,y2,y3,y4,y5,y6,y7,yf⟩:=id t4
   go_wp2
   exact bodyPost_ret (res_ss3 rfl rfl (t4.all (.slice v2.A s'.h.ws.length v2.ca) (.int .i64 s'.h.n) (.slice v2.U s'.h.us.length v2.cu) (.slice v2.V s'.h.l.length v2.cv) (.int .i64 s'.n) (.slice O3 s'.os.length c3) (.int .u64 (s'.fa:Nat)) (.int .u64 (s'.go:Nat)))) rfl ⟨v2,O3,c3,rfl,(o3.over8 (g:=w.heap.size + 1) (by omega) (.slice v2.A s'.h.ws.length v2.ca) (.int .i64 s'.h.n) (.slice v2.U s'.h.us.length v2.cu) (.slice v2.V s'.h.l.length v2.cv) (.int .i64 s'.n) (.slice O3 s'.os.length c3) (.int .u64 (s'.fa:Nat)) (.int .u64 (s'.go:Nat))).mono (by omega),below8 (g:=w.heap.size + 1) b3 (by omega) (.slice v2.A s'.h.ws.length v2.ca) (.int .i64 s'.h.n) (.slice v2.U s'.h.us.length v2.cu) (.slice v2.V s'.h.l.length v2.cv) (.int .i64 s'.n) (.slice O3 s'.os.length c3) (.int .u64 (s'.fa:Nat)) (.int .u64 (s'.go:Nat))⟩
end
def FreshSw (w:World) (s':Sc) (t:List Nat) (y:Int) (e:Ending) (w':World):Prop:=∃ v O c A ca,e=.returned (.tuple #[scV v O c s',.slice A t.length ca,.int .i64 y])∧OwnsSc w' w.heap.size v O s'∧OwnsN w' w.heap.size A t.length ca t∧Below w.heap.size w w'
def ClE (s:Sc) (f:Int) (s':Sc) (t:List Nat) (y:Int):Prop:=(¬ OkS s∧s'=sc0∧t=[]∧y=2) ∨ (OkS s∧(∃ h',ClnE s.h f h' t y)∧y ≠ 0∧s'=s∧t=[]) ∨ (OkS s∧∃ h',ClnE s.h f h' t 0∧s'=clnSc s h'∧y=0)
theorem ClnE.refused {h:Hp} {f:Int} {h':Hp} {t:List Nat} {y:Int} (hE:ClnE h f h' t y) (hk:OkH h) (hy:y ≠ 0):h'=h∧t=[]:=by
 rcases hE with ⟨h1,_⟩ | ⟨_,_,e,e2,_⟩ | ⟨_,_,_,_,e,e2,_⟩ | ⟨_,_,_,_,_,_,e⟩
 ·exact absurd hk h1
 ·exact ⟨e,e2⟩
 ·exact ⟨e,e2⟩
 ·exact absurd e hy
theorem ClE.ex (s:Sc) (f:Int):∃ s' t y,ClE s f s' t y:=by
 by_cases hk:OkS s
 ·obtain ⟨h',t,y,hE⟩:=ClnE.ex s.h f
  by_cases hy:y=0
  ·subst hy
   exact ⟨_,_,_,.inr (.inr ⟨hk,h',hE,rfl,rfl⟩)⟩
  ·exact ⟨_,_,_,.inr (.inl ⟨hk,⟨h',hE⟩,hy,rfl,(hE.refused hk.h hy).2⟩)⟩
 ·exact ⟨_,_,_,.inl ⟨hk,rfl,rfl,rfl⟩⟩
def TheE (s:Sc) (a b:Int) (y:Int):Prop:=(¬ OkS s∧a=0∧b=0∧y=2) ∨ (OkS s∧a=s.n - (countTo s.os s.n.toNat:Nat)∧b=s.n - (countTo s.os s.n.toNat:Nat) - (countTo s.h.us s.n.toNat:Nat)∧y=0)
theorem TheE.ex (s:Sc):∃ a b y,TheE s a b y:=by
 by_cases hk:OkS s
 ·exact ⟨_,_,_,.inr ⟨hk,rfl,rfl,rfl⟩⟩
 ·exact ⟨_,_,_,.inl ⟨hk,rfl,rfl,rfl⟩⟩
def makS (h:Hp):Sc:=⟨h,h.n,wordsN h.n,0,0⟩
theorem makS_ok {h:Hp} (hk:OkH h):OkS (makS h):=okS_of hk (right_wordsN h.n hk.framed.pages.1 hk.framed.pages.2.1) rfl fun i hi ho=>by
 have ho:tb (wordsN h.n) i=true:=ho
 unfold wordsN at ho
 rw [tb_zeros] at ho
 cases ho
def MkS (h:Hp) (s':Sc) (y:Int):Prop:=(¬ OkH h∧s'=sc0∧y=2) ∨ (OkH h∧s'=makS h∧y=0)
theorem MkS.ex (h:Hp):∃ s' y,MkS h s' y:=by
 by_cases hk:OkH h
 ·exact ⟨_,_,.inr ⟨hk,rfl,rfl⟩⟩
 ·exact ⟨_,_,.inl ⟨hk,rfl,rfl⟩⟩
section
variable {w:World} {v:Hv} {O:Option Addr} {s:Sc} (co:Nat)
theorem over8N {w:World} {B g n cap:Nat} {A:Option Addr} {t:List Nat} (o:OwnsN w B A n cap t) (hg:g < B) (u0 u1 u2 u3 u4 u5 u6 u7:Value):OwnsN ((((((((w.setCell ⟨g,0,none⟩ u0).setCell ⟨g,1,none⟩ u1).setCell ⟨g,2,none⟩ u2).setCell ⟨g,3,none⟩ u3).setCell ⟨g,4,none⟩ u4).setCell ⟨g,5,none⟩ u5).setCell ⟨g,6,none⟩ u6).setCell ⟨g,7,none⟩ u7) B A n cap t:=
 ((((((((o.far2 (p:=⟨g,0,none⟩) hg u0).far2 (p:=⟨g,1,none⟩) hg u1).far2 (p:=⟨g,2,none⟩) hg u2).far2 (p:=⟨g,3,none⟩) hg u3).far2 (p:=⟨g,4,none⟩) hg u4).far2 (p:=⟨g,5,none⟩) hg u5).far2 (p:=⟨g,6,none⟩) hg u6).far2 (p:=⟨g,7,none⟩) hg u7)
set_option maxHeartbeats 8000000 in
theorem fclean_any (hz:Sizes w) (m:SM w v O s) (hs:Short s.h) (hnil:v.V=none → v.cv=0) (f:Int) (s':Sc) (t:List Nat) (y:Int) (hE:ClE s f s' t y) :
  Calls Tryz.prog 51 #[scV v O co s,.int .i64 f] w fun e w'=>FreshSw w s' t y e w':=by
 unfold FreshSw
 rcases hE with ⟨hk,rfl,rfl,rfl⟩ | ⟨hk,⟨h',hN⟩,hy,hss,rfl⟩ | ⟨hk,h',hN,he,rfl⟩
 ·have HV:=Lib.hid fun (w:World) z m=>fview_bad (w:=w) (v:=v) (O:=O) (s:=s) co z m hs hk
  clear hk hs
  unfold scV at HV ⊢
  go_enter Tryz.func51,Tryz.ntmps51
  go_wp2_with fail
  go_at_call 134
  refine (HV.out _ (hz.later bX) (m.later bX)).mono ?_
  rintro e w1 ⟨rfl,hb_w1⟩
  obtain ⟨hc_w1,hf_w1⟩:=bcell hb_w1;have hz_w1_w_0:w.heap.size < w1.heap.size:=lY hb_w1.size;have hz_w1_w_1:w.heap.size + 1 < w1.heap.size:=lY hb_w1.size;have hs_w1:=hb_w1.size;(try simp only [zZ] at hs_w1)
  have b1:Below w.heap.size w w1:=bX
  have t0:=(E8.new (w.alloc (.cells #[.slice v.A s.h.ws.length v.ca,.int .i64 s.h.n,.slice v.U s.h.us.length v.cu,.slice v.V s.h.l.length v.cv,.int .i64 s.n,.slice O s.os.length co,.int .u64 (s.fa:Nat),.int .u64 (s.go:Nat)] 79)) (.slice none 0 0) (.int .i64 0) (.slice none 0 0) (.slice none 0 0) (.int .i64 0) (.slice none 0 0) (.int .u64 0) (.int .u64 0) 79).later hb_w1
  simp only [zA] at t0
  obtain ⟨y0,y1,y2,y3,y4,y5,y6,y7,yf⟩:=id t0
  have ylt:=t0.lt
  unfold hv0 sc0 hp0 at *
  simp only at *
  have u0:=(t0.all (.slice none 0 0) (.int .i64 0) (.slice none 0 0) (.slice none 0 0) (.int .i64 0) (.slice none 0 0) (.int .u64 0) (.int .u64 0)).later ((Below.refl _ _).alloc (Nat.le_refl _) (.cells #[.slice none 0 0,.int .i64 0,.slice none 0 0,.slice none 0 0,.int .i64 0,.slice none 0 0,.int .u64 0,.int .u64 0] 192))
  have b2:=(below8 (g:=w.heap.size + 1) b1 (by omega) (.slice none 0 0) (.int .i64 0) (.slice none 0 0) (.slice none 0 0) (.int .i64 0) (.slice none 0 0) (.int .u64 0) (.int .u64 0)).alloc (by rw [size8];omega) (.cells #[.slice none 0 0,.int .i64 0,.slice none 0 0,.slice none 0 0,.int .i64 0,.slice none 0 0,.int .u64 0,.int .u64 0] 192)
  clear hc_w1 hf_w1
  go_wp2
  exact bodyPost_ret (res_ss3 rfl rfl u0) rfl ⟨hv0,none,0,none,0,rfl,OwnsSc.zero _ _,OwnsN.nil _ _,b2⟩
 ·have hss:=hss.symm
  subst hss
  have hh:=(hN.refused hk.h hy).1
  subst hh
  have fy:(y != (0:Int))=true:=by simpa using hy
  have HNW:=Lib.hid fun (w:World) (v:Hv) hz m hn=>zcleanH_any (w:=w) (v:=v) (h:=s.h) hz m hk.h.lens.1 hk.h.lens.2 hn f s.h [] y hN
  unfold FreshHw hpV hpv at HNW
  have HV:=Lib.hid fun (w:World) z m=>fview_ok (w:=w) (v:=v) (O:=O) (s:=s) co z m hk
  have HT:=Lib.hid fun (w:World) m=>ftwin_any (w:=w) (v:=v) (O:=O) (s:=s) co m hk hnil
  clear hk hs hN hy
  unfold scV at HV HT ⊢
  go_enter Tryz.func51,Tryz.ntmps51
  go_wp2_with fail
  go_at_call 134
  refine (HV.out _ (hz.later bX) (m.later bX)).mono ?_
  rintro e w1 ⟨rfl,hb_w1⟩
  obtain ⟨hc_w1,hf_w1⟩:=bcell hb_w1;have hz_w1_w_0:w.heap.size < w1.heap.size:=lY hb_w1.size;have hz_w1_w_1:w.heap.size + 1 < w1.heap.size:=lY hb_w1.size;have hs_w1:=hb_w1.size;(try simp only [zZ] at hs_w1)
  have b1:Below w.heap.size w w1:=bX
  have t0:=(E8.new (w.alloc (.cells #[.slice v.A s.h.ws.length v.ca,.int .i64 s.h.n,.slice v.U s.h.us.length v.cu,.slice v.V s.h.l.length v.cv,.int .i64 s.n,.slice O s.os.length co,.int .u64 (s.fa:Nat),.int .u64 (s.go:Nat)] 79)) (.slice none 0 0) (.int .i64 0) (.slice none 0 0) (.slice none 0 0) (.int .i64 0) (.slice none 0 0) (.int .u64 0) (.int .u64 0) 79).later hb_w1
  simp only [zA] at t0
  have t1:=E8.new w1 (.slice v.A s.h.ws.length v.ca) (.int .i64 s.h.n) (.slice v.U s.h.us.length v.cu) (.slice v.V s.h.l.length v.cv) (.int .i64 s.n) (.slice O s.os.length co) (.int .u64 (s.fa:Nat)) (.int .u64 (s.go:Nat)) 192
  have t0:=t0.later ((Below.refl _ _).alloc (Nat.le_refl _) (.cells #[.slice v.A s.h.ws.length v.ca,.int .i64 s.h.n,.slice v.U s.h.us.length v.cu,.slice v.V s.h.l.length v.cv,.int .i64 s.n,.slice O s.os.length co,.int .u64 (s.fa:Nat),.int .u64 (s.go:Nat)] 192))
  have zt:=t0.lt
  clear hc_w1 hf_w1
  go_wp2_with fail
  go_at_call 135
  refine (HT.out _ ((m.later b1).later bX)).mono ?_
  rintro e w2 ⟨v2,O2,c2,rfl,o2,hb_w2⟩
  have t0:=t0.later hb_w2
  have t1:=t1.later hb_w2
  have s2:=hb_w2.size
  simp only [zA] at o2 s2 zt
  have b2:Below w.heap.size w w2:=bX
  have sw:=b1.size
  have t1':=t1.all (.slice v2.A s.h.ws.length v2.ca) (.int .i64 s.h.n) (.slice v2.U s.h.us.length v2.cu) (.slice v2.V s.h.l.length v2.cv) (.int .i64 s.n) (.slice O2 s.os.length c2) (.int .u64 (s.fa:Nat)) (.int .u64 (s.go:Nat))
  have t0':=t0.over (g:=w1.heap.size) (by omega) (.slice v2.A s.h.ws.length v2.ca) (.int .i64 s.h.n) (.slice v2.U s.h.us.length v2.cu) (.slice v2.V s.h.l.length v2.cv) (.int .i64 s.n) (.slice O2 s.os.length c2) (.int .u64 (s.fa:Nat)) (.int .u64 (s.go:Nat))
  have o2':=o2.over8 (g:=w1.heap.size) (by omega) (.slice v2.A s.h.ws.length v2.ca) (.int .i64 s.h.n) (.slice v2.U s.h.us.length v2.cu) (.slice v2.V s.h.l.length v2.cv) (.int .i64 s.n) (.slice O2 s.os.length c2) (.int .u64 (s.fa:Nat)) (.int .u64 (s.go:Nat))
  have b2':=below8 (g:=w1.heap.size) b2 (by omega) (.slice v2.A s.h.ws.length v2.ca) (.int .i64 s.h.n) (.slice v2.U s.h.us.length v2.cu) (.slice v2.V s.h.l.length v2.cv) (.int .i64 s.n) (.slice O2 s.os.length c2) (.int .u64 (s.fa:Nat)) (.int .u64 (s.go:Nat))
  obtain ⟨x0,x1,x2,x3,x4,x5,x6,x7,xf⟩:=id t1
  obtain ⟨y0,y1,y2,y3,y4,y5,y6,y7,yf⟩:=id t0
  go_wp2_with fail
  generalize hW:((((((((w2.setCell ⟨w1.heap.size,0,none⟩ (.slice v2.A s.h.ws.length v2.ca)).setCell ⟨w1.heap.size,1,none⟩ (.int .i64 s.h.n)).setCell ⟨w1.heap.size,2,none⟩ (.slice v2.U s.h.us.length v2.cu)).setCell ⟨w1.heap.size,3,none⟩ (.slice v2.V s.h.l.length v2.cv)).setCell ⟨w1.heap.size,4,none⟩ (.int .i64 s.n)).setCell ⟨w1.heap.size,5,none⟩ (.slice O2 s.os.length c2)).setCell ⟨w1.heap.size,6,none⟩ (.int .u64 (s.fa:Nat))).setCell ⟨w1.heap.size,7,none⟩ (.int .u64 (s.go:Nat)))=W at *
  have sW:W.heap.size=w2.heap.size:=by rw [← hW];exact size8 _ _ _ _ _ _ _ _ _ _
  clear hW t0 t1 o2 b2 hb_w2 x0 x1 x2 x3 x4 x5 x6 x7 xf y0 y1 y2 y3 y4 y5 y6 y7 yf
  obtain ⟨x0,x1,x2,x3,x4,x5,x6,x7,xf⟩:=id t1'
  have oN:=o2'.h.nil
  have oM:=o2'.h.hm
  go_wp2_with fail
  go_at_call 40
  refine (HNW.out _ _ (hz.later b2') oM oN).mono ?_
  rintro e w3 ⟨v3,A3,c3,rfl,o3,r3,hb_w3⟩
  have s3:=hb_w3.size
  clear oN oM x0 x1 x2 x3 x4 x5 x6 x7 xf
  have t0':=(t0'.later hb_w3).later ((Below.refl _ _).alloc (Nat.le_refl _) (.cells #[.slice v3.A s.h.ws.length v3.ca,.int .i64 s.h.n,.slice v3.U s.h.us.length v3.cu,.slice v3.V s.h.l.length v3.cv] 31))
  have t1':=(t1'.later hb_w3).later ((Below.refl _ _).alloc (Nat.le_refl _) (.cells #[.slice v3.A s.h.ws.length v3.ca,.int .i64 s.h.n,.slice v3.U s.h.us.length v3.cu,.slice v3.V s.h.l.length v3.cv] 31))
  have o2':=(o2'.later hb_w3).later ((Below.refl _ _).alloc (Nat.le_refl _) (.cells #[.slice v3.A s.h.ws.length v3.ca,.int .i64 s.h.n,.slice v3.U s.h.us.length v3.cu,.slice v3.V s.h.l.length v3.cv] 31))
  have b2':=(b2'.trans (hb_w3.mono b2'.size)).alloc (by have:=b2'.size;omega) (.cells #[.slice v3.A s.h.ws.length v3.ca,.int .i64 s.h.n,.slice v3.U s.h.us.length v3.cu,.slice v3.V s.h.l.length v3.cv] 31)
  have q4:=B4.new w3 (.slice v3.A s.h.ws.length v3.ca) (.int .i64 s.h.n) (.slice v3.U s.h.us.length v3.cu) (.slice v3.V s.h.l.length v3.cv) 31
  obtain ⟨x0,x1,x2,x3,x4,x5,x6,x7,xf⟩:=id t1'
  obtain ⟨y0,y1,y2,y3,y4,y5,y6,y7,yf⟩:=id t0'
  go_wp2
  exact bodyPost_ret (res_ss3 rfl rfl (t0'.all (.slice v2.A s.h.ws.length v2.ca) (.int .i64 s.h.n) (.slice v2.U s.h.us.length v2.cu) (.slice v2.V s.h.l.length v2.cv) (.int .i64 s.n) (.slice O2 s.os.length c2) (.int .u64 (s.fa:Nat)) (.int .u64 (s.go:Nat)))) rfl ⟨v2,O2,c2,none,0,rfl,(o2'.over8 (g:=w.heap.size + 1) (by omega) (.slice v2.A s.h.ws.length v2.ca) (.int .i64 s.h.n) (.slice v2.U s.h.us.length v2.cu) (.slice v2.V s.h.l.length v2.cv) (.int .i64 s.n) (.slice O2 s.os.length c2) (.int .u64 (s.fa:Nat)) (.int .u64 (s.go:Nat))).mono (by omega),OwnsN.nil _ _,below8 (g:=w.heap.size + 1) b2' (by omega) (.slice v2.A s.h.ws.length v2.ca) (.int .i64 s.h.n) (.slice v2.U s.h.us.length v2.cu) (.slice v2.V s.h.l.length v2.cv) (.int .i64 s.n) (.slice O2 s.os.length c2) (.int .u64 (s.fa:Nat)) (.int .u64 (s.go:Nat))⟩
 ·have HNW:=Lib.hid fun (w:World) (v:Hv) hz m hn=>zcleanH_any (w:=w) (v:=v) (h:=s.h) hz m hk.h.lens.1 hk.h.lens.2 hn f h' t 0 hN
  unfold FreshHw hpV hpv at HNW
  have HV:=Lib.hid fun (w:World) z m=>fview_ok (w:=w) (v:=v) (O:=O) (s:=s) co z m hk
  have HT:=Lib.hid fun (w:World) m=>ftwin_any (w:=w) (v:=v) (O:=O) (s:=s) co m hk hnil
  clear hk hs hN
  subst he
  unfold scV at HV HT ⊢
  go_enter Tryz.func51,Tryz.ntmps51
  go_wp2_with fail
  go_at_call 134
  refine (HV.out _ (hz.later bX) (m.later bX)).mono ?_
  rintro e w1 ⟨rfl,hb_w1⟩
  obtain ⟨hc_w1,hf_w1⟩:=bcell hb_w1;have hz_w1_w_0:w.heap.size < w1.heap.size:=lY hb_w1.size;have hz_w1_w_1:w.heap.size + 1 < w1.heap.size:=lY hb_w1.size;have hs_w1:=hb_w1.size;(try simp only [zZ] at hs_w1)
  have b1:Below w.heap.size w w1:=bX
  have t0:=(E8.new (w.alloc (.cells #[.slice v.A s.h.ws.length v.ca,.int .i64 s.h.n,.slice v.U s.h.us.length v.cu,.slice v.V s.h.l.length v.cv,.int .i64 s.n,.slice O s.os.length co,.int .u64 (s.fa:Nat),.int .u64 (s.go:Nat)] 79)) (.slice none 0 0) (.int .i64 0) (.slice none 0 0) (.slice none 0 0) (.int .i64 0) (.slice none 0 0) (.int .u64 0) (.int .u64 0) 79).later hb_w1
  simp only [zA] at t0
  have t1:=E8.new w1 (.slice v.A s.h.ws.length v.ca) (.int .i64 s.h.n) (.slice v.U s.h.us.length v.cu) (.slice v.V s.h.l.length v.cv) (.int .i64 s.n) (.slice O s.os.length co) (.int .u64 (s.fa:Nat)) (.int .u64 (s.go:Nat)) 192
  have t0:=t0.later ((Below.refl _ _).alloc (Nat.le_refl _) (.cells #[.slice v.A s.h.ws.length v.ca,.int .i64 s.h.n,.slice v.U s.h.us.length v.cu,.slice v.V s.h.l.length v.cv,.int .i64 s.n,.slice O s.os.length co,.int .u64 (s.fa:Nat),.int .u64 (s.go:Nat)] 192))
  have zt:=t0.lt
  clear hc_w1 hf_w1
  go_wp2_with fail
  go_at_call 135
  refine (HT.out _ ((m.later b1).later bX)).mono ?_
  rintro e w2 ⟨v2,O2,c2,rfl,o2,hb_w2⟩
  have t0:=t0.later hb_w2
  have t1:=t1.later hb_w2
  have s2:=hb_w2.size
  simp only [zA] at o2 s2 zt
  have b2:Below w.heap.size w w2:=bX
  have sw:=b1.size
  have t1':=t1.all (.slice v2.A s.h.ws.length v2.ca) (.int .i64 s.h.n) (.slice v2.U s.h.us.length v2.cu) (.slice v2.V s.h.l.length v2.cv) (.int .i64 s.n) (.slice O2 s.os.length c2) (.int .u64 (s.fa:Nat)) (.int .u64 (s.go:Nat))
  have t0':=t0.over (g:=w1.heap.size) (by omega) (.slice v2.A s.h.ws.length v2.ca) (.int .i64 s.h.n) (.slice v2.U s.h.us.length v2.cu) (.slice v2.V s.h.l.length v2.cv) (.int .i64 s.n) (.slice O2 s.os.length c2) (.int .u64 (s.fa:Nat)) (.int .u64 (s.go:Nat))
  have o2':=o2.over8 (g:=w1.heap.size) (by omega) (.slice v2.A s.h.ws.length v2.ca) (.int .i64 s.h.n) (.slice v2.U s.h.us.length v2.cu) (.slice v2.V s.h.l.length v2.cv) (.int .i64 s.n) (.slice O2 s.os.length c2) (.int .u64 (s.fa:Nat)) (.int .u64 (s.go:Nat))
  have b2':=below8 (g:=w1.heap.size) b2 (by omega) (.slice v2.A s.h.ws.length v2.ca) (.int .i64 s.h.n) (.slice v2.U s.h.us.length v2.cu) (.slice v2.V s.h.l.length v2.cv) (.int .i64 s.n) (.slice O2 s.os.length c2) (.int .u64 (s.fa:Nat)) (.int .u64 (s.go:Nat))
  obtain ⟨x0,x1,x2,x3,x4,x5,x6,x7,xf⟩:=id t1
  obtain ⟨y0,y1,y2,y3,y4,y5,y6,y7,yf⟩:=id t0
  go_wp2_with fail
  generalize hW:((((((((w2.setCell ⟨w1.heap.size,0,none⟩ (.slice v2.A s.h.ws.length v2.ca)).setCell ⟨w1.heap.size,1,none⟩ (.int .i64 s.h.n)).setCell ⟨w1.heap.size,2,none⟩ (.slice v2.U s.h.us.length v2.cu)).setCell ⟨w1.heap.size,3,none⟩ (.slice v2.V s.h.l.length v2.cv)).setCell ⟨w1.heap.size,4,none⟩ (.int .i64 s.n)).setCell ⟨w1.heap.size,5,none⟩ (.slice O2 s.os.length c2)).setCell ⟨w1.heap.size,6,none⟩ (.int .u64 (s.fa:Nat))).setCell ⟨w1.heap.size,7,none⟩ (.int .u64 (s.go:Nat)))=W at *
  have sW:W.heap.size=w2.heap.size:=by rw [← hW];exact size8 _ _ _ _ _ _ _ _ _ _
  clear hW t0 t1 o2 b2 hb_w2 x0 x1 x2 x3 x4 x5 x6 x7 xf y0 y1 y2 y3 y4 y5 y6 y7 yf
  obtain ⟨x0,x1,x2,x3,x4,x5,x6,x7,xf⟩:=id t1'
  have oN:=o2'.h.nil
  have oM:=o2'.h.hm
  go_wp2_with fail
  go_at_call 40
  refine (HNW.out _ _ (hz.later b2') oM oN).mono ?_
  rintro e w3 ⟨v3,A3,c3,rfl,o3,r3,hb_w3⟩
  have s3:=hb_w3.size
  clear oN oM x0 x1 x2 x3 x4 x5 x6 x7 xf
  have t0':=(t0'.later hb_w3).later ((Below.refl _ _).alloc (Nat.le_refl _) (.cells #[.slice v3.A h'.ws.length v3.ca,.int .i64 h'.n,.slice v3.U h'.us.length v3.cu,.slice v3.V h'.l.length v3.cv] 31))
  have t1':=(t1'.later hb_w3).later ((Below.refl _ _).alloc (Nat.le_refl _) (.cells #[.slice v3.A h'.ws.length v3.ca,.int .i64 h'.n,.slice v3.U h'.us.length v3.cu,.slice v3.V h'.l.length v3.cv] 31))
  have o2':=(o2'.later hb_w3).later ((Below.refl _ _).alloc (Nat.le_refl _) (.cells #[.slice v3.A h'.ws.length v3.ca,.int .i64 h'.n,.slice v3.U h'.us.length v3.cu,.slice v3.V h'.l.length v3.cv] 31))
  have b2':=(b2'.trans (hb_w3.mono b2'.size)).alloc (by have:=b2'.size;omega) (.cells #[.slice v3.A h'.ws.length v3.ca,.int .i64 h'.n,.slice v3.U h'.us.length v3.cu,.slice v3.V h'.l.length v3.cv] 31)
  have q4:=B4.new w3 (.slice v3.A h'.ws.length v3.ca) (.int .i64 h'.n) (.slice v3.U h'.us.length v3.cu) (.slice v3.V h'.l.length v3.cv) 31
  obtain ⟨x0,x1,x2,x3,x4,x5,x6,x7,xf⟩:=id t1'
  obtain ⟨q0,q1,q2,q3,_,_,_,_⟩:=id q4
  have zq:=q4.lt
  have oo:=o2'.o
  have o4:=o3.later ((Below.refl _ _).alloc (Nat.le_refl _) (.cells #[.slice v3.A h'.ws.length v3.ca,.int .i64 h'.n,.slice v3.U h'.us.length v3.cu,.slice v3.V h'.l.length v3.cv] 31))
  have r4:=r3.later ((Below.refl _ _).alloc (Nat.le_refl _) (.cells #[.slice v3.A h'.ws.length v3.ca,.int .i64 h'.n,.slice v3.U h'.us.length v3.cu,.slice v3.V h'.l.length v3.cv] 31))
  have t2:=(((t1'.set0 (.slice v3.A h'.ws.length v3.ca)).set1 (.int .i64 h'.n)).set2 (.slice v3.U h'.us.length v3.cu)).set3 (.slice v3.V h'.l.length v3.cv)
  have t0':=t0'.far (p:=⟨w1.heap.size,0,none⟩) (by show w1.heap.size ≠ w.heap.size + 1;omega) (.slice v3.A h'.ws.length v3.ca)
  have t0':=t0'.far (p:=⟨w1.heap.size,1,none⟩) (by show w1.heap.size ≠ w.heap.size + 1;omega) (.int .i64 h'.n)
  have t0':=t0'.far (p:=⟨w1.heap.size,2,none⟩) (by show w1.heap.size ≠ w.heap.size + 1;omega) (.slice v3.U h'.us.length v3.cu)
  have t0':=t0'.far (p:=⟨w1.heap.size,3,none⟩) (by show w1.heap.size ≠ w.heap.size + 1;omega) (.slice v3.V h'.l.length v3.cv)
  have o4:=o4.far (p:=⟨w1.heap.size,0,none⟩) (by show w1.heap.size < W.heap.size;omega) (.slice v3.A h'.ws.length v3.ca)
  have o4:=o4.far (p:=⟨w1.heap.size,1,none⟩) (by show w1.heap.size < W.heap.size;omega) (.int .i64 h'.n)
  have o4:=o4.far (p:=⟨w1.heap.size,2,none⟩) (by show w1.heap.size < W.heap.size;omega) (.slice v3.U h'.us.length v3.cu)
  have o4:=o4.far (p:=⟨w1.heap.size,3,none⟩) (by show w1.heap.size < W.heap.size;omega) (.slice v3.V h'.l.length v3.cv)
  have r4:=r4.far2 (p:=⟨w1.heap.size,0,none⟩) (by show w1.heap.size < W.heap.size;omega) (.slice v3.A h'.ws.length v3.ca)
  have r4:=r4.far2 (p:=⟨w1.heap.size,1,none⟩) (by show w1.heap.size < W.heap.size;omega) (.int .i64 h'.n)
  have r4:=r4.far2 (p:=⟨w1.heap.size,2,none⟩) (by show w1.heap.size < W.heap.size;omega) (.slice v3.U h'.us.length v3.cu)
  have r4:=r4.far2 (p:=⟨w1.heap.size,3,none⟩) (by show w1.heap.size < W.heap.size;omega) (.slice v3.V h'.l.length v3.cv)
  have oo:=oo.far (p:=⟨w1.heap.size,0,none⟩) (.inl (by show w1.heap.size < w1.heap.size + 1;omega)) (.slice v3.A h'.ws.length v3.ca)
  have oo:=oo.far (p:=⟨w1.heap.size,1,none⟩) (.inl (by show w1.heap.size < w1.heap.size + 1;omega)) (.int .i64 h'.n)
  have oo:=oo.far (p:=⟨w1.heap.size,2,none⟩) (.inl (by show w1.heap.size < w1.heap.size + 1;omega)) (.slice v3.U h'.us.length v3.cu)
  have oo:=oo.far (p:=⟨w1.heap.size,3,none⟩) (.inl (by show w1.heap.size < w1.heap.size + 1;omega)) (.slice v3.V h'.l.length v3.cv)
  have b2':=b2'.setCell (p:=⟨w1.heap.size,0,none⟩) (by show w.heap.size ≤ w1.heap.size;omega) (.slice v3.A h'.ws.length v3.ca)
  have b2':=b2'.setCell (p:=⟨w1.heap.size,1,none⟩) (by show w.heap.size ≤ w1.heap.size;omega) (.int .i64 h'.n)
  have b2':=b2'.setCell (p:=⟨w1.heap.size,2,none⟩) (by show w.heap.size ≤ w1.heap.size;omega) (.slice v3.U h'.us.length v3.cu)
  have b2':=b2'.setCell (p:=⟨w1.heap.size,3,none⟩) (by show w.heap.size ≤ w1.heap.size;omega) (.slice v3.V h'.l.length v3.cv)
  skip
  skip
  obtain ⟨z0,z1,z2,z3,z4,z5,z6,z7,zf⟩:=id t2
  obtain ⟨y0,y1,y2,y3,y4,y5,y6,y7,yf⟩:=id t0'
  go_wp2
  exact bodyPost_ret (res_ss3 rfl rfl (t0'.all (.slice v3.A h'.ws.length v3.ca) (.int .i64 h'.n) (.slice v3.U h'.us.length v3.cu) (.slice v3.V h'.l.length v3.cv) (.int .i64 s.n) (.slice O2 s.os.length c2) (.int .u64 (s.fa:Nat)) (.int .u64 (s.go:Nat)))) rfl ⟨v3,O2,c2,A3,c3,rfl,((OwnsSc.mk (s:=clnSc s h') (o4.mono (B':=w1.heap.size + 1) (by omega)) oo).over8 (g:=w.heap.size + 1) (by omega) (.slice v3.A h'.ws.length v3.ca) (.int .i64 h'.n) (.slice v3.U h'.us.length v3.cu) (.slice v3.V h'.l.length v3.cv) (.int .i64 s.n) (.slice O2 s.os.length c2) (.int .u64 (s.fa:Nat)) (.int .u64 (s.go:Nat))).mono (by omega),(over8N (g:=w.heap.size + 1) r4 (by omega) (.slice v3.A h'.ws.length v3.ca) (.int .i64 h'.n) (.slice v3.U h'.us.length v3.cu) (.slice v3.V h'.l.length v3.cv) (.int .i64 s.n) (.slice O2 s.os.length c2) (.int .u64 (s.fa:Nat)) (.int .u64 (s.go:Nat))).mono (by omega),below8 (g:=w.heap.size + 1) b2' (by omega) (.slice v3.A h'.ws.length v3.ca) (.int .i64 h'.n) (.slice v3.U h'.us.length v3.cu) (.slice v3.V h'.l.length v3.cv) (.int .i64 s.n) (.slice O2 s.os.length c2) (.int .u64 (s.fa:Nat)) (.int .u64 (s.go:Nat))⟩
set_option maxHeartbeats 4000000 in
theorem fthere_any (hz:Sizes w) (m:SM w v O s) (hs:Short s.h) (hnil:v.V=none → v.cv=0) (a b y:Int) (hE:TheE s a b y) :
  Calls Tryz.prog 59 #[scV v O co s] w fun e w'=>e=.returned (.tuple #[.int .i64 a,.int .i64 b,.int .i64 y])∧Below w.heap.size w w':=by
 rcases hE with ⟨hk,rfl,rfl,rfl⟩ | ⟨hk,rfl,rfl,rfl⟩
 ·have HV:=Lib.hid fun (w:World) z m=>fview_bad (w:=w) (v:=v) (O:=O) (s:=s) co z m hs hk
  clear hk hs
  unfold scV at HV ⊢
  unfold hv0 sc0 hp0 at HV
  simp only at HV
  go_enter Tryz.func59,Tryz.ntmps59
  go_wp2_with fail
  go_at_call 134
  refine (HV.out _ (hz.later bX) (m.later bX)).mono ?_
  rintro e w1 ⟨rfl,hb_w1⟩
  obtain ⟨hc_w1,hf_w1⟩:=bcell hb_w1;have hz_w1_w_0:w.heap.size < w1.heap.size:=lY hb_w1.size;have hs_w1:=hb_w1.size;(try simp only [zZ] at hs_w1)
  go_wp2
  go_ret3
  exact ⟨rfl,bX⟩
 ·have HV:=Lib.hid fun (w:World) z m=>fview_ok (w:=w) (v:=v) (O:=O) (s:=s) co z m hk
  have HP:=Lib.hid fun (w:World) m=>fpresent_any (w:=w) (v:=v) (O:=O) (s:=s) co m hk
  have HU:=Lib.hid fun (w:World) m=>fused_any (w:=w) (v:=v) (O:=O) (s:=s) co m hk
  have hnn:=hk.nn
  have c1:=countTo_le s.os s.n.toNat
  have c2:=countTo_le s.h.us s.n.toNat
  clear hk hs
  unfold scV at HV HP HU ⊢
  generalize countTo s.os s.n.toNat=q1 at *
  generalize countTo s.h.us s.n.toNat=q2 at *
  have hw1:IntKind.i64.wrap (s.n - (q1:Int) - (q2:Int))=s.n - (q1:Int) - (q2:Int):=IntWalk.i64_in _ (by omega)
  go_enter Tryz.func59,Tryz.ntmps59
  go_wp2_with fail
  go_at_call 134
  refine (HV.out _ (hz.later bX) (m.later bX)).mono ?_
  rintro e w1 ⟨rfl,hb_w1⟩
  obtain ⟨hc_w1,hf_w1⟩:=bcell hb_w1;have hz_w1_w_0:w.heap.size < w1.heap.size:=lY hb_w1.size;have hs_w1:=hb_w1.size;(try simp only [zZ] at hs_w1)
  have b1:Below w.heap.size w w1:=bX
  have t1:=E8.new w1 (.slice v.A s.h.ws.length v.ca) (.int .i64 s.h.n) (.slice v.U s.h.us.length v.cu) (.slice v.V s.h.l.length v.cv) (.int .i64 s.n) (.slice O s.os.length co) (.int .u64 (s.fa:Nat)) (.int .u64 (s.go:Nat)) 192
  have m1:=m.later b1
  have m2:=m1.later ((Below.refl _ _).alloc (Nat.le_refl _) (.cells #[.slice v.A s.h.ws.length v.ca,.int .i64 s.h.n,.slice v.U s.h.us.length v.cu,.slice v.V s.h.l.length v.cv,.int .i64 s.n,.slice O s.os.length co,.int .u64 (s.fa:Nat),.int .u64 (s.go:Nat)] 192))
  clear hc_w1 hf_w1
  obtain ⟨x0,x1,x2,x3,x4,x5,x6,x7,xf⟩:=id t1
  go_wp2_with fail
  go_region_held3 (fun X:World=>X.cell? ⟨w1.heap.size,0,none⟩=some (.slice v.A s.h.ws.length v.ca)∧X.cell? ⟨w1.heap.size,1,none⟩=some (.int .i64 s.h.n)∧X.cell? ⟨w1.heap.size,2,none⟩=some (.slice v.U s.h.us.length v.cu)∧X.cell? ⟨w1.heap.size,3,none⟩=some (.slice v.V s.h.l.length v.cv)∧X.cell? ⟨w1.heap.size,4,none⟩=some (.int .i64 s.n)∧X.cell? ⟨w1.heap.size,5,none⟩=some (.slice O s.os.length co)∧X.cell? ⟨w1.heap.size,6,none⟩=some (.int .u64 (s.fa:Nat))∧X.cell? ⟨w1.heap.size,7,none⟩=some (.int .u64 (s.go:Nat)))
    ((refine ⟨?_,?_,?_,?_,?_,?_,?_,?_⟩ <;> first | assumption | (simp [go_sem];done)))
    ((first
     | (go_at_call 140;refine (HP.out _ (m2.later bX)).mono ?_;rintro e w2 ⟨rfl,hb_w2⟩;obtain ⟨hc_w2,hf_w2⟩:=bcell hb_w2;have hz_w2_w1_0:w1.heap.size < w2.heap.size:=lY hb_w2.size;have hs_w2:=hb_w2.size;(try simp only [zZ] at hs_w2);clear hc_w2 hf_w2;have n0:w2.cell? ⟨w1.heap.size,0,none⟩=some (.slice v.A s.h.ws.length v.ca):=(hb_w2.cell lX).trans kY;have n1:w2.cell? ⟨w1.heap.size,1,none⟩=some (.int .i64 s.h.n):=(hb_w2.cell lX).trans kY;have n2:w2.cell? ⟨w1.heap.size,2,none⟩=some (.slice v.U s.h.us.length v.cu):=(hb_w2.cell lX).trans kY;have n3:w2.cell? ⟨w1.heap.size,3,none⟩=some (.slice v.V s.h.l.length v.cv):=(hb_w2.cell lX).trans kY;have n4:w2.cell? ⟨w1.heap.size,4,none⟩=some (.int .i64 s.n):=(hb_w2.cell lX).trans kY;have n5:w2.cell? ⟨w1.heap.size,5,none⟩=some (.slice O s.os.length co):=(hb_w2.cell lX).trans kY;have n6:w2.cell? ⟨w1.heap.size,6,none⟩=some (.int .u64 (s.fa:Nat)):=(hb_w2.cell lX).trans kY;have n7:w2.cell? ⟨w1.heap.size,7,none⟩=some (.int .u64 (s.go:Nat)):=(hb_w2.cell lX).trans kY)
     | (go_at_call 142;refine (HU.out _ (m2.later bX)).mono ?_;rintro e w3 ⟨rfl,hb_w3⟩;obtain ⟨hc_w3,hf_w3⟩:=bcell hb_w3;have hz_w3_w1_0:w1.heap.size < w3.heap.size:=lY hb_w3.size;have hs_w3:=hb_w3.size;(try simp only [zZ] at hs_w3);clear hc_w3 hf_w3;have mm0:w3.cell? ⟨w1.heap.size,0,none⟩=some (.slice v.A s.h.ws.length v.ca):=(hb_w3.cell lX).trans kY;have mm1:w3.cell? ⟨w1.heap.size,1,none⟩=some (.int .i64 s.h.n):=(hb_w3.cell lX).trans kY;have mm2:w3.cell? ⟨w1.heap.size,2,none⟩=some (.slice v.U s.h.us.length v.cu):=(hb_w3.cell lX).trans kY;have mm3:w3.cell? ⟨w1.heap.size,3,none⟩=some (.slice v.V s.h.l.length v.cv):=(hb_w3.cell lX).trans kY;have mm4:w3.cell? ⟨w1.heap.size,4,none⟩=some (.int .i64 s.n):=(hb_w3.cell lX).trans kY;have mm5:w3.cell? ⟨w1.heap.size,5,none⟩=some (.slice O s.os.length co):=(hb_w3.cell lX).trans kY;have mm6:w3.cell? ⟨w1.heap.size,6,none⟩=some (.int .u64 (s.fa:Nat)):=(hb_w3.cell lX).trans kY;have mm7:w3.cell? ⟨w1.heap.size,7,none⟩=some (.int .u64 (s.go:Nat)):=(hb_w3.cell lX).trans kY)))
  go_wp2
  go_ret3
  exact ⟨rfl,bX⟩
end
set_option maxHeartbeats 4000000 in
theorem fmake_any {w:World} {v:Hv} {h:Hp} (hz:Sizes w) (m:HM w w.heap.size v h) (hs:Short h) (hnil:v.V=none → v.cv=0) (s':Sc) (y:Int) (hE:MkS h s' y) :
  Calls Tryz.prog 63 #[hpV v h] w fun e w'=>∃ v' O c,e=.returned (.tuple #[scV v' O c s',.int .i64 y])∧OwnsSc w' w.heap.size v' O s'∧Below w.heap.size w w':=by
 rcases hE with ⟨hk,rfl,rfl⟩ | ⟨hk,rfl,rfl⟩
 ·have HC:=Lib.hid fun (w:World) z m=>zcheck_any (w:=w) (v:=v) (h:=h) z m (by have:=hs.l;omega) hs.ws 2 (.inr ⟨hk,rfl⟩)
  clear hk hs
  unfold hpV hpv at HC ⊢
  go_enter Tryz.func63,Tryz.ntmps63
  go_wp2_with fail
  go_at_call 21
  refine (HC.out _ (hz.later bX) (m.later bX)).mono ?_
  rintro e w1 ⟨rfl,hb_w1⟩
  obtain ⟨hc_w1,hf_w1⟩:=bcell hb_w1;have hz_w1_w_0:w.heap.size < w1.heap.size:=lY hb_w1.size;have hz_w1_w_1:w.heap.size + 1 < w1.heap.size:=lY hb_w1.size;have hs_w1:=hb_w1.size;(try simp only [zZ] at hs_w1)
  have b1:Below w.heap.size w w1:=bX
  have t0:=(E8.new (w.alloc (.cells #[.slice v.A h.ws.length v.ca,.int .i64 h.n,.slice v.U h.us.length v.cu,.slice v.V h.l.length v.cv] 31)) (.slice none 0 0) (.int .i64 0) (.slice none 0 0) (.slice none 0 0) (.int .i64 0) (.slice none 0 0) (.int .u64 0) (.int .u64 0) 79).later hb_w1
  simp only [zA] at t0
  obtain ⟨y0,y1,y2,y3,y4,y5,y6,y7,yf⟩:=id t0
  clear hc_w1 hf_w1
  go_wp2
  exact bodyPost_ret (res_ss2 rfl rfl (t0.all _ _ _ _ _ _ _ _)) rfl ⟨hv0,none,0,rfl,OwnsSc.zero _ _,below8 b1 lX _ _ _ _ _ _ _ _⟩
 ·have HC:=Lib.hid fun (w:World) z m=>zcheck_any (w:=w) (v:=v) (h:=h) z m (by have:=hs.l;omega) hs.ws 0 (.inl ⟨hk,rfl⟩)
  have HP:=Lib.hid fun (w:World) m=>plainH_any (w:=w) (v:=v) (h:=h) m hk.framed hnil
  have HMK:=Lib.hid fun (w:World)=>make_ok h.n w hk.framed.pages.1 hk.framed.pages.2.1
  clear hk hs hnil
  unfold makS scV
  simp only
  unfold Fresh at HMK
  generalize wordsN h.n=os at *
  unfold hpV hpv at HC HP ⊢
  go_enter Tryz.func63,Tryz.ntmps63
  go_wp2_with fail
  go_at_call 21
  refine (HC.out _ (hz.later bX) (m.later bX)).mono ?_
  rintro e w1 ⟨rfl,hb_w1⟩
  obtain ⟨hc_w1,hf_w1⟩:=bcell hb_w1;have hz_w1_w_0:w.heap.size < w1.heap.size:=lY hb_w1.size;have hz_w1_w_1:w.heap.size + 1 < w1.heap.size:=lY hb_w1.size;have hs_w1:=hb_w1.size;(try simp only [zZ] at hs_w1)
  have b1:Below w.heap.size w w1:=bX
  have t0:=(E8.new (w.alloc (.cells #[.slice v.A h.ws.length v.ca,.int .i64 h.n,.slice v.U h.us.length v.cu,.slice v.V h.l.length v.cv] 31)) (.slice none 0 0) (.int .i64 0) (.slice none 0 0) (.slice none 0 0) (.int .i64 0) (.slice none 0 0) (.int .u64 0) (.int .u64 0) 79).later hb_w1
  have x0:=((HIn.new m 31).later ((Below.refl _ _).alloc (Nat.le_refl _) (.cells #[.slice none 0 0,.int .i64 0,.slice none 0 0,.slice none 0 0,.int .i64 0,.slice none 0 0,.int .u64 0,.int .u64 0] 79))).later hb_w1
  simp only [zA] at t0
  clear hc_w1 hf_w1
  obtain ⟨c0,c1,c2,c3,f0,f1,f2,f3⟩:=id x0.box
  go_wp2_with fail
  go_at_call 122
  refine (HMK.out _).mono ?_
  rintro e w2 ⟨A2,k2,rfl,o2,hb_w2⟩
  clear c0 c1 c2 c3 f0 f1 f2 f3
  have b2:=b1.trans (hb_w2.mono b1.size)
  have t0:=t0.later hb_w2
  have x0:=x0.later hb_w2
  have s2:=hb_w2.size
  have sw:=b1.size
  have aB:Below w2.heap.size w2 (w2.alloc (.cells #[.int .i64 h.n,.slice A2 os.length k2] 26)):=(Below.refl _ _).alloc (Nat.le_refl _) _
  have t0:=t0.later aB
  have x0:=x0.later aB
  have o2:=o2.later aB
  have q2:=Two.new w2 (.int .i64 h.n) (.slice A2 os.length k2) 26
  have b2:=b2.trans (aB.mono b2.size)
  have z0:=t0.lt
  clear aB hb_w2
  obtain ⟨c0,c1,c2,c3,f0,f1,f2,f3⟩:=id x0.box
  obtain ⟨g0,g1,gf⟩:=id q2
  obtain ⟨y0,y1,y2,y3,y4,y5,y6,y7,yf⟩:=id t0
  have zg:=World.block_lt_of_cell? _ _ g0
  have zw:w.heap.size + 1 < (w2.alloc (.cells #[.int .i64 h.n,.slice A2 os.length k2] 26)).heap.size:=t0.lt
  go_wp2_with fail
  go_region_with (go_at_call 144;refine (HP.out _ (x0.m.later bX)).mono ?_;rintro e w3 ⟨v3,rfl,o3,hb_w3⟩;have k3:Below (w2.alloc (.cells #[.int .i64 h.n,.slice A2 os.length k2] 26)).heap.size (w2.alloc (.cells #[.int .i64 h.n,.slice A2 os.length k2] 26)) w3:=bX;have t3:=t0.later k3;have q3:=q2.later k3;have n0:=q3.c0;have n1:=q3.c1;obtain ⟨m0,m1,m2,m3,m4,m5,m6,m7,mf⟩:=id t3)
  all_goals (have b3:=b2.trans (k3.mono b2.size))
  all_goals (have oo:=(o2.later k3).mono (B':=w.heap.size + 2) (by omega))
  all_goals (have o4:=o3.mono (B':=w.heap.size + 2) (by first | omega | (simp only [zD,zA];omega)))
  all_goals (try go_wp2)
  all_goals exact bodyPost_ret (res_ss2 rfl rfl (t3.all (.slice v3.A h.ws.length v3.ca) (.int .i64 h.n) (.slice v3.U h.us.length v3.cu) (.slice v3.V h.l.length v3.cv) (.int .i64 h.n) (.slice A2 os.length k2) (.int .u64 0) (.int .u64 0))) rfl ⟨v3,A2,k2,rfl,((OwnsSc.mk (s:=⟨h,h.n,os,0,0⟩) o4 oo).over8 (g:=w.heap.size + 1) (by omega) (.slice v3.A h.ws.length v3.ca) (.int .i64 h.n) (.slice v3.U h.us.length v3.cu) (.slice v3.V h.l.length v3.cv) (.int .i64 h.n) (.slice A2 os.length k2) (.int .u64 0) (.int .u64 0)).mono (B':=w.heap.size) (by omega),below8 (g:=w.heap.size + 1) b3 (by omega) (.slice v3.A h.ws.length v3.ca) (.int .i64 h.n) (.slice v3.U h.us.length v3.cu) (.slice v3.V h.l.length v3.cv) (.int .i64 h.n) (.slice A2 os.length k2) (.int .u64 0) (.int .u64 0)⟩
def notO (os:List Nat):Nat → Nat
 | 0=>0
 | k + 1=>notO os k + if tb os k=true then 0 else 1
def notB (us os:List Nat):Nat → Nat
 | 0=>0
 | k + 1=>notB us os k + if tb os k=true then 0 else if tb us k=true then 0 else 1
theorem notO_eq (os:List Nat) (k:Nat):notO os k + countTo os k=k:=by
 induction k with
 | zero=>rfl
 | succ k ih=>
  rw [notO,countTo]
  cases h:tb os k <;> simp [h] <;> omega
theorem notB_eq {us os:List Nat} (k:Nat) (h:∀ j,j < k → tb os j=true → tb us j=false):notB us os k + countTo os k + countTo us k=k:=by
 induction k with
 | zero=>rfl
 | succ k ih=>
  have i1:=ih fun j hj=>h j (by omega)
  have i2:=h k (by omega)
  rw [notB,countTo,countTo]
  cases h1:tb os k <;> cases h2:tb us k <;> simp [h1,h2] at i2 ⊢ <;> omega
theorem notO_le (os:List Nat) (k:Nat):notO os k ≤ k:=by have:=notO_eq os k;omega
theorem notB_le (us os:List Nat) (k:Nat):notB us os k ≤ k:=by
 induction k with
 | zero=>exact Nat.le_refl _
 | succ k ih=>rw [notB];split <;> (try split) <;> omega
section
variable {w:World} {v:Hv} {O:Option Addr} {s:Sc} (co:Nat)
set_option maxHeartbeats 4000000 in
theorem xthereS_any (m:SM w v O s) (h2:s.h.l.length ≤ 17592186044416) (a b y:Int) (hE:TheE s a b y) :
  Calls Tryz.prog 60 #[scV v O co s] w fun e w'=>e=.returned (.tuple #[.int .i64 a,.int .i64 b,.int .i64 y])∧Below w.heap.size w w':=by
 have X0:=E8.new w (.slice v.A s.h.ws.length v.ca) (.int .i64 s.h.n) (.slice v.U s.h.us.length v.cu) (.slice v.V s.h.l.length v.cv) (.int .i64 s.n) (.slice O s.os.length co) (.int .u64 (s.fa:Nat)) (.int .u64 (s.go:Nat)) 79
 rcases hE with ⟨hk,rfl,rfl,rfl⟩ | ⟨hk,rfl,rfl,rfl⟩
 ·have HC:=Lib.hid fun (w:World) m=>xcheckS_any (w:=w) (v:=v) (O:=O) (s:=s) co m h2 2 (.inr ⟨hk,rfl⟩)
  clear hk h2
  unfold scV at HC ⊢
  obtain ⟨x0,x1,x2,x3,x4,x5,x6,x7,xf⟩:=id X0
  go_enter Tryz.func60,Tryz.ntmps60
  go_wp2_with fail
  go_at_call 66
  refine (HC.out _ (m.later bX)).mono ?_
  rintro e w1 ⟨rfl,hb_w1⟩
  obtain ⟨hc_w1,hf_w1⟩:=bcell hb_w1;have hz_w1_w_0:w.heap.size < w1.heap.size:=lY hb_w1.size;have hs_w1:=hb_w1.size;(try simp only [zZ] at hs_w1)
  go_wp2
  go_ret3
  exact ⟨rfl,bX⟩
 ·have HC:=Lib.hid fun (w:World) m=>xcheckS_any (w:=w) (v:=v) (O:=O) (s:=s) co m h2 0 (.inl ⟨hk,rfl⟩)
  have hlo:=hk.o.long
  have hlu:=hk.us.long
  have hol:=right_len hk.o
  have hul:=right_len hk.us
  have hn0:=hk.o.1
  have hn4:=hk.o.2.1
  have hap:=notB_eq s.n.toNat fun j hj=>hk.apart hj
  have hno:=notO_eq s.os s.n.toNat
  obtain ⟨N,hN⟩:∃ N:Nat,s.n.toNat=N:=⟨_,rfl⟩
  rw [hN] at hap hno ⊢
  have HN2:=Lib.hid (show s.n=(N:Int) by omega)
  have hN4:N ≤ 4096:=by omega
  have HA:=Lib.hid (show s.n - (countTo s.os N:Nat)=(notO s.os N:Nat) by omega)
  have HF:=Lib.hid (show s.n - (countTo s.os N:Nat) - (countTo s.h.us N:Nat)=(notB s.h.us s.os N:Nat) by omega)
  clear hk h2 hap hno hN
  rw [HF.out,HA.out]
  unfold scV at HC ⊢
  obtain ⟨x0,x1,x2,x3,x4,x5,x6,x7,xf⟩:=id X0
  go_enter Tryz.func60,Tryz.ntmps60
  go_wp2_with fail
  go_at_call 66
  refine (HC.out _ (m.later bX)).mono ?_
  rintro e w1 ⟨rfl,hb_w1⟩
  obtain ⟨hc_w1,hf_w1⟩:=bcell hb_w1;have hz_w1_w_0:w.heap.size < w1.heap.size:=lY hb_w1.size;have hs_w1:=hb_w1.size;(try simp only [zZ] at hs_w1)
  clear hc_w1 hf_w1
  have X1:=X0.later (by exact hb_w1)
  clear x0 x1 x2 x3 x4 x5 x6 x7 xf
  obtain ⟨x0,x1,x2,x3,x4,x5,x6,x7,xf⟩:=id X1
  go_wp2_with fail
  have b0:Below w.heap.size w w1:=bX
  clear x0 x1 x2 x3 x4 x5 x6 x7 xf
  go_loopw [5,6,7] (fun nv fv ii wr=>∃ k:Nat,ii=.int .i64 (k:Nat)∧k ≤ N∧nv=.int .i64 (notO s.os k:Nat)∧fv=.int .i64 (notB s.h.us s.os k:Nat)∧E8 wr w.heap.size (.slice v.A s.h.ws.length v.ca) (.int .i64 s.h.n) (.slice v.U s.h.us.length v.cu) (.slice v.V s.h.l.length v.cv) (.int .i64 s.n) (.slice O s.os.length co) (.int .u64 (s.fa:Nat)) (.int .u64 (s.go:Nat))∧Below w.heap.size w wr) (fun _ _ ii _=>N - (intOf ii).toNat)
  case atStart=>exact ⟨0,rfl,Nat.zero_le _,rfl,rfl,X1,b0⟩
  case round=>
   clear X1 b0
   obtain ⟨k,rfl,hk,rfl,rfl,X,hb⟩:=hrel
   by_cases hlt:k < N
   ·have f2:decide ((k:Int) < s.n)=true:=decide_eq_true (by have:=HN2.out;omega)
    have HI:=Lib.hid fun (w:World) hr=>is_any (w:=w) (A:=O) (ws:=s.os) (k:Nat) s.n co hr (by omega) (by have:=HN2.out;omega) hol
    have HU:=Lib.hid fun (w:World) hr=>xusedS_any (w:=w) (v:=v) (h:=s.h) hr (k:Nat) (by omega) (by have:=HN2.out;omega) hul
    simp only [Int.toNat_natCast] at HI HU
    unfold hpV hpv at HU
    have zx:=X.lt
    obtain ⟨x0,x1,x2,x3,x4,x5,x6,x7,xf⟩:=id X
    have HQ:=Lib.hid (show notO s.os (k + 1)=notO s.os k + (if tb s.os k=true then 0 else 1) from rfl)
    have HB:=Lib.hid (show notB s.h.us s.os (k + 1)=notB s.h.us s.os k + (if tb s.os k=true then 0 else if tb s.h.us k=true then 0 else 1) from rfl)
    have l1:=notO_le s.os k
    have l2:=notB_le s.h.us s.os k
    obtain ⟨bo,hbo⟩:∃ x,Hid (tb s.os k=x):=⟨_,Lib.hid rfl⟩
    obtain ⟨bu,hbu⟩:∃ x,Hid (tb s.h.us k=x):=⟨_,Lib.hid rfl⟩
    obtain ⟨qo,hqo⟩:∃ x,notO s.os k=x:=⟨_,rfl⟩
    obtain ⟨qb,hqb⟩:∃ x,notB s.h.us s.os k=x:=⟨_,rfl⟩
    rw [hqo] at HQ l1
    rw [hqb] at HB l2
    rw [hqo,hqb]
    clear hqo hqb
    rw [hbo.out] at HI HQ HB
    rw [hbu.out] at HU HB
    go_wp2_with fail
    go_at_call 107
    refine (HI.out _ (m.o.later (by exact hb))).mono ?_
    rintro e u1 ⟨rfl,hb_u1⟩
    have b1:=hb.trans (hb_u1.mono hb.size)
    have X1:=X.later hb_u1
    clear x0 x1 x2 x3 x4 x5 x6 x7 xf
    obtain ⟨x0,x1,x2,x3,x4,x5,x6,x7,xf⟩:=id X1
    cases bo
    ·go_wp2_with fail
     go_at_call 137
     refine (HU.out _ (m.h.u.later (by exact b1))).mono ?_
     rintro e u2 ⟨rfl,hb_u2⟩
     have b2:=b1.trans (hb_u2.mono b1.size)
     have X2:=X1.later hb_u2
     clear x0 x1 x2 x3 x4 x5 x6 x7 xf
     cases bu
     ·go_wp2
      go_roundw
      case rel=>exact ⟨k + 1,by go_num,by omega,by rw [HQ.out];go_num,by rw [HB.out];go_num,X2,b2⟩
      case measure=>simp [intOf];omega
     ·go_wp2
      go_roundw
      case rel=>exact ⟨k + 1,by go_num,by omega,by rw [HQ.out];go_num,by rw [HB.out];go_num,X2,b2⟩
      case measure=>simp [intOf];omega
    ·go_wp2
     go_roundw
     case rel=>exact ⟨k + 1,by go_num,by omega,by rw [HQ.out];go_num,by rw [HB.out];go_num,X1,b1⟩
     case measure=>simp [intOf];omega
   ·obtain rfl:k=N:=by omega
    have f2:decide ((k:Int) < s.n)=false:=decide_eq_false (by have:=HN2.out;omega)
    obtain ⟨x0,x1,x2,x3,x4,x5,x6,x7,xf⟩:=id X
    go_wp2
    go_ret3
    exact ⟨rfl,hb⟩
end
section
variable {w:World} {v v':Hv} {O O':Option Addr} {s:Sc} (co co':Nat)
set_option maxHeartbeats 4000000 in
theorem xsameS_any (m:SM w v O s) (m':SM w v' O' s) (hs:Short s.h) (ho:s.os.length ≤ 17592186044416) :
  Calls Tryz.prog 58 #[scV v O co s,scV v' O' co' s] w fun e w'=>e=.returned (.bool true)∧Below w.heap.size w w':=by
 have HH:=Lib.hid fun (w:World) h1 h2=>hsame_any (w:=w) (v:=v) (v':=v') (h:=s.h) h1 h2 hs
 have HO:=Lib.hid fun (w:World) h1 h2=>same_ok s.n s.os (by unfold maxLen;omega) w O O' co co' h1 h2
 unfold hpV hpv at HH
 have a0:Below w.heap.size w (w.alloc (.cells #[.slice v.A s.h.ws.length v.ca,.int .i64 s.h.n,.slice v.U s.h.us.length v.cu,.slice v.V s.h.l.length v.cv,.int .i64 s.n,.slice O s.os.length co,.int .u64 (s.fa:Nat),.int .u64 (s.go:Nat)] 79)):=(Below.refl _ _).alloc (Nat.le_refl _) _
 have X0:=E8.new w (.slice v.A s.h.ws.length v.ca) (.int .i64 s.h.n) (.slice v.U s.h.us.length v.cu) (.slice v.V s.h.l.length v.cv) (.int .i64 s.n) (.slice O s.os.length co) (.int .u64 (s.fa:Nat)) (.int .u64 (s.go:Nat)) 79
 have z0:=X0.lt
 have m1:=m.later a0
 have m1':=m'.later a0
 have a1:Below (w.alloc (.cells #[.slice v.A s.h.ws.length v.ca,.int .i64 s.h.n,.slice v.U s.h.us.length v.cu,.slice v.V s.h.l.length v.cv,.int .i64 s.n,.slice O s.os.length co,.int .u64 (s.fa:Nat),.int .u64 (s.go:Nat)] 79)).heap.size (w.alloc (.cells #[.slice v.A s.h.ws.length v.ca,.int .i64 s.h.n,.slice v.U s.h.us.length v.cu,.slice v.V s.h.l.length v.cv,.int .i64 s.n,.slice O s.os.length co,.int .u64 (s.fa:Nat),.int .u64 (s.go:Nat)] 79)) ((w.alloc (.cells #[.slice v.A s.h.ws.length v.ca,.int .i64 s.h.n,.slice v.U s.h.us.length v.cu,.slice v.V s.h.l.length v.cv,.int .i64 s.n,.slice O s.os.length co,.int .u64 (s.fa:Nat),.int .u64 (s.go:Nat)] 79)).alloc (.cells #[.slice v'.A s.h.ws.length v'.ca,.int .i64 s.h.n,.slice v'.U s.h.us.length v'.cu,.slice v'.V s.h.l.length v'.cv,.int .i64 s.n,.slice O' s.os.length co',.int .u64 (s.fa:Nat),.int .u64 (s.go:Nat)] 79)):=(Below.refl _ _).alloc (Nat.le_refl _) _
 have Y1:=E8.new (w.alloc (.cells #[.slice v.A s.h.ws.length v.ca,.int .i64 s.h.n,.slice v.U s.h.us.length v.cu,.slice v.V s.h.l.length v.cv,.int .i64 s.n,.slice O s.os.length co,.int .u64 (s.fa:Nat),.int .u64 (s.go:Nat)] 79)) (.slice v'.A s.h.ws.length v'.ca) (.int .i64 s.h.n) (.slice v'.U s.h.us.length v'.cu) (.slice v'.V s.h.l.length v'.cv) (.int .i64 s.n) (.slice O' s.os.length co') (.int .u64 (s.fa:Nat)) (.int .u64 (s.go:Nat)) 79
 rw [World.size_alloc] at Y1
 have X1:=X0.later a1
 have m2:=m1.later a1
 have m2':=m1'.later a1
 have b1:=a0.trans (a1.mono a0.size)
 clear m m' m1 m1' X0 a0 a1
 unfold scV
 obtain ⟨x0,x1,x2,x3,x4,x5,x6,x7,xf⟩:=id X1
 obtain ⟨y0,y1,y2,y3,y4,y5,y6,y7,yf⟩:=id Y1
 have fa_:((s.fa:Int) == (s.fa:Int))=true:=by simp
 have go_:((s.go:Int) == (s.go:Int))=true:=by simp
 go_enter Tryz.func58,Tryz.ntmps58
 go_wp2_with fail
 go_at_call 20
 refine (HH.out _ (by exact m2.h) (by exact m2'.h)).mono ?_
 rintro e w1 ⟨rfl,hb_w1⟩
 have b2:=b1.trans (hb_w1.mono b1.size)
 have X2:=X1.later hb_w1
 have Y2:=Y1.later hb_w1
 have m3:=m2.later hb_w1
 have m3':=m2'.later hb_w1
 clear x0 x1 x2 x3 x4 x5 x6 x7 xf
 clear y0 y1 y2 y3 y4 y5 y6 y7 yf
 obtain ⟨x0,x1,x2,x3,x4,x5,x6,x7,xf⟩:=id X2
 obtain ⟨y0,y1,y2,y3,y4,y5,y6,y7,yf⟩:=id Y2
 go_wp2_with fail
 go_at_call 141
 refine (HO.out _ (by exact m3.o) (by exact m3'.o)).mono ?_
 rintro e w2 ⟨rfl,hb_w2⟩
 have b3:=b2.trans (hb_w2.mono b2.size)
 have X3:=X2.later hb_w2
 have Y3:=Y2.later hb_w2
 clear x0 x1 x2 x3 x4 x5 x6 x7 xf
 clear y0 y1 y2 y3 y4 y5 y6 y7 yf
 obtain ⟨x0,x1,x2,x3,x4,x5,x6,x7,xf⟩:=id X3
 obtain ⟨y0,y1,y2,y3,y4,y5,y6,y7,yf⟩:=id Y3
 go_wp2
 go_ret
 exact ⟨rfl,b3⟩
end
theorem CopO.hm {w:World} {B:Nat} {v:Hv} {h:Hp} (c:CopO w B v h):HM w w.heap.size v h:=c.owns.hm
set_option maxHeartbeats 4000000 in
theorem xmakeS_any {w:World} {v:Hv} {h:Hp} (m:HM w w.heap.size v h) (h2:h.l.length ≤ 17592186044416) (s':Sc) (y:Int) (hE:MkS h s' y) :
  Calls Tryz.prog 64 #[hpV v h] w fun e w'=>∃ v' O c,e=.returned (.tuple #[scV v' O c s',.int .i64 y])∧OwnsSc w' w.heap.size v' O s'∧Below w.heap.size w w':=by
 rcases hE with ⟨hk,rfl,rfl⟩ | ⟨hk,rfl,rfl⟩
 ·have HC:=Lib.hid fun (w:World) m=>xcheckH_any (w:=w) (v:=v) (h:=h) m h2 2 (.inr ⟨hk,rfl⟩)
  clear hk h2
  unfold hpV hpv at HC ⊢
  go_enter Tryz.func64,Tryz.ntmps64
  go_wp2_with fail
  go_at_call 22
  refine (HC.out _ (m.later bX)).mono ?_
  rintro e w1 ⟨rfl,hb_w1⟩
  obtain ⟨hc_w1,hf_w1⟩:=bcell hb_w1;have hz_w1_w_0:w.heap.size < w1.heap.size:=lY hb_w1.size;have hz_w1_w_1:w.heap.size + 1 < w1.heap.size:=lY hb_w1.size;have hs_w1:=hb_w1.size;(try simp only [zZ] at hs_w1)
  have b1:Below w.heap.size w w1:=bX
  have t0:=(E8.new (w.alloc (.cells #[.slice v.A h.ws.length v.ca,.int .i64 h.n,.slice v.U h.us.length v.cu,.slice v.V h.l.length v.cv] 31)) (.slice none 0 0) (.int .i64 0) (.slice none 0 0) (.slice none 0 0) (.int .i64 0) (.slice none 0 0) (.int .u64 0) (.int .u64 0) 79).later hb_w1
  simp only [zA] at t0
  obtain ⟨y0,y1,y2,y3,y4,y5,y6,y7,yf⟩:=id t0
  clear hc_w1 hf_w1
  go_wp2
  exact bodyPost_ret (res_ss2 rfl rfl (t0.all _ _ _ _ _ _ _ _)) rfl ⟨hv0,none,0,rfl,OwnsSc.zero _ _,below8 b1 lX _ _ _ _ _ _ _ _⟩
 ·have HC:=Lib.hid fun (w:World) m=>xcheckH_any (w:=w) (v:=v) (h:=h) m h2 0 (.inl ⟨hk,rfl⟩)
  have HP:=Lib.hid fun (w:World) m=>hcopyO_any (w:=w) (v:=v) (h:=h) m hk
  have HMK:=Lib.hid fun (w:World)=>rmake_ok h.n w hk.framed.pages.1 hk.framed.pages.2.1
  clear hk h2
  unfold makS scV
  simp only
  unfold Fresh at HMK
  generalize wordsN h.n=os at *
  unfold hpV hpv at HC HP ⊢
  go_enter Tryz.func64,Tryz.ntmps64
  go_wp2_with fail
  go_at_call 22
  refine (HC.out _ (m.later bX)).mono ?_
  rintro e w1 ⟨rfl,hb_w1⟩
  obtain ⟨hc_w1,hf_w1⟩:=bcell hb_w1;have hz_w1_w_0:w.heap.size < w1.heap.size:=lY hb_w1.size;have hz_w1_w_1:w.heap.size + 1 < w1.heap.size:=lY hb_w1.size;have hs_w1:=hb_w1.size;(try simp only [zZ] at hs_w1)
  have b1:Below w.heap.size w w1:=bX
  have t0:=(E8.new (w.alloc (.cells #[.slice v.A h.ws.length v.ca,.int .i64 h.n,.slice v.U h.us.length v.cu,.slice v.V h.l.length v.cv] 31)) (.slice none 0 0) (.int .i64 0) (.slice none 0 0) (.slice none 0 0) (.int .i64 0) (.slice none 0 0) (.int .u64 0) (.int .u64 0) 79).later hb_w1
  have x0:=((HIn.new m 31).later ((Below.refl _ _).alloc (Nat.le_refl _) (.cells #[.slice none 0 0,.int .i64 0,.slice none 0 0,.slice none 0 0,.int .i64 0,.slice none 0 0,.int .u64 0,.int .u64 0] 79))).later hb_w1
  simp only [zA] at t0
  clear hc_w1 hf_w1
  obtain ⟨c0,c1,c2,c3,f0,f1,f2,f3⟩:=id x0.box
  go_wp2_with fail
  go_at_call 112
  refine (HMK.out _).mono ?_
  rintro e w2 ⟨A2,k2,rfl,o2,hb_w2⟩
  clear c0 c1 c2 c3 f0 f1 f2 f3
  have b2:=b1.trans (hb_w2.mono b1.size)
  have t0:=t0.later hb_w2
  have x0:=x0.later hb_w2
  have s2:=hb_w2.size
  have sw:=b1.size
  have aB:Below w2.heap.size w2 (w2.alloc (.cells #[.int .i64 h.n,.slice A2 os.length k2] 26)):=(Below.refl _ _).alloc (Nat.le_refl _) _
  have t0:=t0.later aB
  have x0:=x0.later aB
  have o2:=o2.later aB
  have q2:=Two.new w2 (.int .i64 h.n) (.slice A2 os.length k2) 26
  have b2:=b2.trans (aB.mono b2.size)
  have z0:=t0.lt
  clear aB hb_w2
  obtain ⟨c0,c1,c2,c3,f0,f1,f2,f3⟩:=id x0.box
  obtain ⟨g0,g1,gf⟩:=id q2
  obtain ⟨y0,y1,y2,y3,y4,y5,y6,y7,yf⟩:=id t0
  have zg:=World.block_lt_of_cell? _ _ g0
  have zw:w.heap.size + 1 < (w2.alloc (.cells #[.int .i64 h.n,.slice A2 os.length k2] 26)).heap.size:=t0.lt
  go_wp2_with fail
  go_region_with (go_at_call 14;refine (HP.out _ (x0.m.later bX)).mono ?_;rintro e w3 ⟨v3,rfl,o3,hb_w3⟩;have k3:Below (w2.alloc (.cells #[.int .i64 h.n,.slice A2 os.length k2] 26)).heap.size (w2.alloc (.cells #[.int .i64 h.n,.slice A2 os.length k2] 26)) w3:=bX;have t3:=t0.later k3;have q3:=q2.later k3;have n0:=q3.c0;have n1:=q3.c1;obtain ⟨m0,m1,m2,m3,m4,m5,m6,m7,mf⟩:=id t3)
  all_goals (have b3:=b2.trans (k3.mono b2.size))
  all_goals (have oo:=(o2.later k3).mono (B':=w.heap.size + 2) (by omega))
  all_goals (have o4:=o3.owns.mono (B':=w.heap.size + 2) (by first | omega | (simp only [zD,zA];omega)))
  all_goals (try go_wp2)
  all_goals exact bodyPost_ret (res_ss2 rfl rfl (t3.all (.slice v3.A h.ws.length v3.ca) (.int .i64 h.n) (.slice v3.U h.us.length v3.cu) (.slice v3.V h.l.length v3.cv) (.int .i64 h.n) (.slice A2 os.length k2) (.int .u64 0) (.int .u64 0))) rfl ⟨v3,A2,k2,rfl,((OwnsSc.mk (s:=⟨h,h.n,os,0,0⟩) o4 oo).over8 (g:=w.heap.size + 1) (by omega) (.slice v3.A h.ws.length v3.ca) (.int .i64 h.n) (.slice v3.U h.us.length v3.cu) (.slice v3.V h.l.length v3.cv) (.int .i64 h.n) (.slice A2 os.length k2) (.int .u64 0) (.int .u64 0)).mono (B':=w.heap.size) (by omega),below8 (g:=w.heap.size + 1) b3 (by omega) (.slice v3.A h.ws.length v3.ca) (.int .i64 h.n) (.slice v3.U h.us.length v3.cu) (.slice v3.V h.l.length v3.cv) (.int .i64 h.n) (.slice A2 os.length k2) (.int .u64 0) (.int .u64 0)⟩
end Go.Proofs.YtafpkaifaccehaaGreatDoor
