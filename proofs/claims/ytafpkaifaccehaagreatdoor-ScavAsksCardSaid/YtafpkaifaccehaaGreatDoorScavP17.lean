/- Parts of the proof. -/
import Derived.Test.YtafpkaifaccehaaGreatDoorScavP16
import Derived.Deep.RegionHeld3
set_option maxRecDepth 100000
set_option linter.unusedVariables false
set_option linter.unusedSimpArgs false
namespace Go.Proofs.YtafpkaifaccehaaGreatDoor
open Go.RowKit
def unmA (d:Sd):Nat → List Nat
 | 0=>[]
 | k + 1=>unmA d k ++ if tb d.aw k && !tb d.mw k then [slA d k] else []
theorem unmA_len (d:Sd) (k:Nat):(unmA d k).length ≤ k:=by
 induction k with
 | zero=>exact Nat.le_refl _
 | succ k ih=>
  rw [unmA,List.length_append]
  split <;> simp <;> omega
theorem unmA_mem {d:Sd} {k a:Nat} (h:a ∈ unmA d k):∃ j,j < k∧tb d.aw j=true∧tb d.mw j=false∧a=slA d j:=by
 induction k with
 | zero=>cases h
 | succ k ih=>
  rw [unmA,List.mem_append] at h
  rcases h with h | h
  ·obtain ⟨j,h1,h2⟩:=ih h
   exact ⟨j,by omega,h2⟩
  ·split at h
   ·rename_i hb
    simp only [Bool.and_eq_true,Bool.not_eq_true'] at hb
    rw [List.mem_singleton] at h
    exact ⟨k,by omega,hb.1,hb.2,h⟩
   ·cases h
set_option maxHeartbeats 4000000 in
theorem zunmarked_any {w:World} {d:Sd} {A M:Option Addr} (ca cm:Nat) (ok:Ok1 d) (hA:Row w w.heap.size A d.aw) (hM:Row w w.heap.size M d.mw) :
  Calls Tryz.prog 190 #[spv d A ca M cm] w fun e w'=>∃ L c,e=.returned (.slice L (unmA d (slN d)).length c)∧OwnsN w' w.heap.size L (unmA d (slN d)).length c (unmA d (slN d))∧Below w.heap.size w w':=by
 obtain ⟨N1,N8,HN⟩:=ok.slK
 have han:=ok.an
 have hmn:=ok.mn
 have hpl:=ok.placed
 have hsz:=ok.sized.slots
 unfold Placed at hpl
 obtain ⟨i0,hi,hz0,hz1,hz2⟩:=info_parts info_u64
 have HGA:=Lib.hid fun (w:World) (hr:Row w w.heap.size A d.aw) (k:Nat) (hk:k < slN d)=>get_in (w:=w) (n:=d.an) (A:=A) (ws:=d.aw) ca (k:Int) hr ok.a (by omega) (by omega)
 have HGM:=Lib.hid fun (w:World) (hr:Row w w.heap.size M d.mw) (k:Nat) (hk:k < slN d)=>get_in (w:=w) (n:=d.mn) (A:=M) (ws:=d.mw) cm (k:Int) hr ok.m (by omega) (by omega)
 have HAD:=Lib.hid fun (w:World) hA hM (k:Nat) (hk:k < slN d)=>sAddr_any (w:=w) (d:=d) (A:=A) (M:=M) ca cm hA hM (k:Int) ((slA d k:Nat):Int) 0 (.inl ⟨ok,by omega,by omega,(ok.slA_eq hk).1,rfl⟩)
 have HW64:=Lib.hid fun (k:Nat) (hk:k < slN d)=>show slA d k < W64 from by have:=ok.slA_eq hk;unfold W64;omega
 have HUW:Hid (∀ k,k ≤ slN d → ∀ x ∈ unmA d k,x < W64):=Lib.hid (fun k hk x hx=>by
  obtain ⟨j,h1,_,_,rfl⟩:=unmA_mem hx
  exact HW64.out j (by omega))
 have HSU:=Lib.hid fun k=>show unmA d (k + 1)=unmA d k ++ if tb d.aw k && !tb d.mw k then [slA d k] else [] from rfl
 have HUL:=Lib.hid (unmA_len d)
 have HAN:Hid (d.an=((slN d:Nat):Int)):=Lib.hid (by omega)
 obtain ⟨N,hN⟩:∃ N,Hid (slN d=N):=⟨_,Lib.hid rfl⟩
 rw [hN.out] at N1 N8 HGA HGM HAD HUW HAN HW64 ⊢
 have hS8:Sp8 (w.alloc (.cells #[.int .i64 d.f,.int .i64 d.p,.int .i64 d.z,.int .i64 d.an,.slice A d.aw.length ca,.int .i64 d.mn,.slice M d.mw.length cm,.bool d.s] 72)) w.heap.size 0 d A ca M cm:=Sp8.new w d A ca M cm _
 clear ok han hmn hpl hsz HN
 obtain ⟨UA,hUA⟩:∃ UA:Nat → List Nat,Hid (UA=unmA d):=⟨_,Lib.hid rfl⟩
 rw [← hUA.out] at HUW HSU HUL ⊢
 obtain ⟨df,dp,dz,dan,daw,dmn,dmw,ds⟩:=d
 unfold spv at HAD ⊢
 simp only at HGA HGM HAD HSU HAN hA hM hS8 ⊢
 generalize hsl:(fun k=>slA ⟨df,dp,dz,dan,daw,dmn,dmw,ds⟩ k)=sl at *
 have HSL:Hid (∀ k,slA ⟨df,dp,dz,dan,daw,dmn,dmw,ds⟩ k=sl k):=Lib.hid fun k=>by rw [← hsl]
 simp only [HSL.out] at HAD HSU HW64
 clear hsl hUA hN HSL
 have hU0:UA 0=[]:=List.eq_nil_of_length_eq_zero (by have:=HUL.out 0;omega)
 rw [HAN.out] at HGA HAD hS8 ⊢
 go_enter Tryz.func190,Tryz.ntmps190
 obtain ⟨c0,c1,c2,c3,c4,c5,c6,c7⟩:=id hS8
 go_wp2_with fail
 clear c0 c1 c2 c3 c4 c5 c6 c7
 go_loopw [3,14] (fun tv ii wr=>∃ (k:Nat) (L:Option Addr) (c:Nat),ii=.int .i64 (k:Nat)∧k ≤ N∧tv=.slice L (UA k).length c∧OwnsN wr (w.heap.size + 1) L (UA k).length c (UA k)∧Sp8 wr w.heap.size 0 ⟨df,dp,dz,(N:Nat),daw,dmn,dmw,ds⟩ A ca M cm∧w.heap.size + 1 ≤ wr.heap.size∧Below w.heap.size w wr) (fun tv ii _=>N - (intOf ii).toNat)
 case atStart=>
  have ha:Below w.heap.size w (w.alloc (.cells #[.int .i64 df,.int .i64 dp,.int .i64 dz,.int .i64 (N:Nat),.slice A daw.length ca,.int .i64 dmn,.slice M dmw.length cm,.bool ds] 72)):=Below.alloc (Below.refl _ _) (Nat.le_refl _) _
  exact ⟨0,none,0,rfl,Nat.zero_le _,by rw [hU0];rfl,by rw [hU0];exact OwnsN.nil _ _,hS8,by rw [World.size_alloc];exact Nat.le_refl _,ha⟩
 case round=>
  obtain ⟨k,L,c,rfl,hk,rfl,hO,h8,hsz,hbr⟩:=hrel
  have hsr:=hbr.size
  by_cases hlt:k < N
  ·have HSUk:=Lib.hid (HSU.out k)
   obtain ⟨c0,c1,c2,c3,c4,c5,c6,c7⟩:=id h8
   go_wp2_with fail
   go_at_call 241
   refine (HGA.out _ (hA.later hbr) k hlt).mono ?_
   rintro e w1 ⟨rfl,hb_w1⟩
   have h81:=h8.later hb_w1
   have hb1:Below w.heap.size w w1:=hbr.trans (hb_w1.mono (by omega))
   have hO1:=hO.later hb_w1
   have hs1:=hb_w1.size
   clear c0 c1 c2 c3 c4 c5 c6 c7
   obtain ⟨c0,c1,c2,c3,c4,c5,c6,c7⟩:=id h81
   go_wp2_with fail
   go_at_call 241
   refine (HGM.out _ (hM.later hb1) k hlt).mono ?_
   rintro e w2 ⟨rfl,hb_w2⟩
   have h82:=h81.later hb_w2
   have hb2:Below w.heap.size w w2:=hb1.trans (hb_w2.mono (by omega))
   have hO2:=hO1.later hb_w2
   have hs2:=hb_w2.size
   clear c0 c1 c2 c3 c4 c5 c6 c7 h8 h81 hb_w1 hb_w2 hO hO1 hb1
   obtain ⟨ta,hta⟩:∃ t,Hid (tb daw k=t):=⟨_,Lib.hid rfl⟩
   obtain ⟨tm,htm⟩:∃ t,Hid (tb dmw k=t):=⟨_,Lib.hid rfl⟩
   rw [hta.out,htm.out] at HSUk
   rw [Int.toNat_natCast,hta.out,htm.out]
   obtain ⟨c0,c1,c2,c3,c4,c5,c6,c7⟩:=id h82
   rcases ta with _ | _
   ·rcases tm with _ | _
    ·have hU:UA (k + 1)=UA k:=by rw [HSUk.out];exact List.append_nil _
     have HO2:=Lib.hid hO2
     have HB2:=Lib.hid hb2
     have HU:=Lib.hid hU
     have H82:=Lib.hid h82
     clear hU hO2 hb2 h82 c0 c1 c2 c3 c4 c5 c6 c7
     go_wp2
     go_roundw
     case rel=>exact ⟨k + 1,L,c,by go_num,by omega,by rw [HU.out],by rw [HU.out];exact HO2.out,H82.out,by omega,HB2.out⟩
     case measure=>simp [intOf];omega
    ·have hU:UA (k + 1)=UA k:=by rw [HSUk.out];exact List.append_nil _
     have HO2:=Lib.hid hO2
     have HB2:=Lib.hid hb2
     have HU:=Lib.hid hU
     have H82:=Lib.hid h82
     clear hU hO2 hb2 h82 c0 c1 c2 c3 c4 c5 c6 c7
     go_wp2
     go_roundw
     case rel=>exact ⟨k + 1,L,c,by go_num,by omega,by rw [HU.out],by rw [HU.out];exact HO2.out,H82.out,by omega,HB2.out⟩
     case measure=>simp [intOf];omega
   rcases tm with _ | _
   ·have hU:UA (k + 1)=UA k ++ [sl k]:=by rw [HSUk.out];rfl
    go_wp2_with fail
    go_at_call 159
    refine (HAD.out _ (hA.later hb2) (hM.later hb2) k hlt).mono ?_
    rintro e w3 ⟨rfl,hb_w3⟩
    have h83:=h82.later hb_w3
    have hb3:Below w.heap.size w w3:=hb2.trans (hb_w3.mono (by omega))
    have hO3:=hO2.later hb_w3
    have hs3:=hb_w3.size
    obtain ⟨n,hn⟩:∃ n,(UA k).length=n:=⟨_,rfl⟩
    have hnk:n ≤ k:=by rw [← hn];exact HUL.out k
    rw [hn] at hO3 ⊢
    have hskw:sl k < W64:=HW64.out k hlt
    have HUU:=Lib.hid hU
    have HN:=Lib.hid hn
    have HO3:=Lib.hid hO3
    have HB3:=Lib.hid hb3
    have H83:=Lib.hid h83
    have hlw:Hid (∀ q,(Value.slice L n c).ownBlock=some q → w.heap.size + 1 ≤ q):=Lib.hid fun q hq=>(hO3.row_.lt q hq).1
    clear hU hn hO3 hO2 hb3 hb2 h83 h82 c0 c1 c2 c3 c4 c5 c6 c7 hb_w3
    have hrow:Hid (∀ W',Below w3.heap.size w3 W' → W'.ownsRow (w.heap.size + 1) 32 1 (.slice L n c) n (vals (UA k))):=Lib.hid fun W' hb=>owns_laterN HO3.out.row_ hb
    go_wp2_with (at_builtin;refine wpList_append_lies _ ?_ (.tmp 42) (.tmp 44) 22 ?_ (w.heap.size + 1) 32 i0 _ 1 8 Tryz.underlying22 hi hz0 hz1 hz2 rfl (by omega) (.slice L n c) n (vals (UA k)) ?_ (hrow.out _ bX) ⟨w3.heap.size,0,none⟩ 1 1 (vals [sl k]) ?_ rfl ?_ (vals_one _) (by omega) (by unfold maxLen;omega) (by omega) (by simp only [zA];omega) _ rfl ?_;rfl;rfl;rfl;rfl;(intro j u hj;rw [add_form];have hj0:j=0:=(by have:=(List.getElem?_eq_some_iff.1 hj).1;simpa [vals] using this);subst hj0;have hu:u=.int .u64 (sl k:Nat):=(by simpa [vals] using hj.symm);subst hu;simp [go_sem]);intro g9 cap9 w9 hown9 hg9 hat9 hlt9)
    have hb9:Below (w.heap.size + 1) w3 w9:=Below.grown (w:=w3.alloc _) ((Below.refl _ _).alloc (by omega) _) hg9 (by simp only [zA];omega) (fun q hq=>hlw.out q (by first | exact hq | exact hq.symm))
    have ho9:w9.ownsRow (w.heap.size + 1) 32 1 (.slice (some ⟨g9,0,none⟩) (n + 1) cap9) (n + 1) (vals (UA (k + 1))):=by
     rw [HUU.out]
     have e:vals (UA k ++ [sl k])=vals (UA k) ++ vals [sl k]:=by simp [vals]
     rw [e]
     exact hown9
    have hl9:(UA (k + 1)).length=n + 1:=by rw [HUU.out,List.length_append,HN.out];rfl
    have hO9:OwnsN w9 (w.heap.size + 1) (some ⟨g9,0,none⟩) (n + 1) cap9 (UA (k + 1)):=⟨hl9,HUW.out _ (by omega),ho9⟩
    have hs9:=hb9.size
    exact ⟨⟨k + 1,_,_,by go_num,by omega,by rw [hl9],by rw [hl9];exact hO9,H83.out.below hb9 (by omega),by omega,HB3.out.trans (hb9.mono (by omega))⟩,by simp [intOf];omega⟩
   ·have hU:UA (k + 1)=UA k:=by rw [HSUk.out];exact List.append_nil _
    have HO2:=Lib.hid hO2
    have HB2:=Lib.hid hb2
    have HU:=Lib.hid hU
    have H82:=Lib.hid h82
    clear hU hO2 hb2 h82 c0 c1 c2 c3 c4 c5 c6 c7
    go_wp2
    go_roundw
    case rel=>exact ⟨k + 1,L,c,by go_num,by omega,by rw [HU.out],by rw [HU.out];exact HO2.out,H82.out,by omega,HB2.out⟩
    case measure=>simp [intOf];omega
  ·obtain rfl:k=N:=by omega
   have hO':=Lib.hid (hO.mono (by omega:w.heap.size ≤ w.heap.size + 1))
   go_wp2
   go_ret
   exact ⟨L,c,rfl,hO'.out,hbr⟩
def droL (l:List Sd) (i:Nat):List Sd:=l.take i ++ l.drop (i + 1)
def droH (h:Hp) (i:Nat):Hp:=⟨h.ws,h.n,fillW h.us (nth h.l i).f.toNat (nth h.l i).p.toNat false,droL h.l i⟩
theorem idx_first {l:List Sd} (h:OkL l) {i:Nat} (hi:i < l.length):IdxE l (fun d=>d.f == (nth l i).f) (i:Nat):=by
 refine .inr ⟨i,rfl,hi,by simp,fun j hj=>?_⟩
 have h1:=h.farther hj hi
 have h2:=(h.at_ (show j < l.length by omega)).sized.slots
 have:(nth l j).f ≠ (nth l i).f:=by omega
 simp [this]
set_option maxHeartbeats 4000000 in
theorem zdrop_any {w:World} {B b:Nat} {v:Hv} {h:Hp} (m:WB w B b v h) (hl:OkL h.l) (hR:Right h.n h.us) {i:Nat} (hi:i < h.l.length) (h1:(nth h.l i).f + (nth h.l i).p ≤ h.n)
  (hu:∀ j:Nat,(nth h.l i).f ≤ j → (j:Int) < (nth h.l i).f + (nth h.l i).p → tb h.us j=true) (A M:Option Addr) (ca cm:Nat) :
  Calls Tryz.prog 194 #[.pointer (some ⟨b,0,none⟩),spv (nth h.l i) A ca M cm] w fun e w'=>e=.returned (.tuple #[])∧(∃ v',WB w' B b v' (droH h i))∧Below B w w'∧w.grownBy w' (some b):=by
 have hbl:=m.lt
 have hle:=m.le
 have ok:=hl.at_ hi
 have hpl:=ok.placed
 have hsz:=ok.sized.slots
 unfold Placed at hpl
 have hcap:=m.caps
 have hl256:=hl.1
 have HD:=Lib.hid fun (w:World) (hv:SRow w w.heap.size v.V h.l)=>sdrop_any (w:=w) (A:=v.V) (l:=h.l) v.cv hv hcap.1 (by omega) (nth h.l i).f (droL h.l i) 0 (.inr (.inr ⟨i,hl,idx_first hl hi,rfl,rfl⟩))
 have HG:=Lib.hid fun (w:World) (hr:Row w w.heap.size v.U h.us)=>give_ok (w:=w) (n:=h.n) (A:=v.U) (ws:=h.us) v.cu (nth h.l i).f (nth h.l i).p hr hR (by omega) (by omega) (by omega) hu
 unfold FreshL5 at HD
 unfold Fresh at HG
 unfold droH
 obtain ⟨L,hL⟩:∃ L,Hid (droL h.l i=L):=⟨_,Lib.hid rfl⟩
 obtain ⟨U,hU⟩:∃ U,Hid (fillW h.us (nth h.l i).f.toNat (nth h.l i).p.toNat false=U):=⟨_,Lib.hid rfl⟩
 rw [hL.out] at HD ⊢
 rw [hU.out] at HG ⊢
 obtain ⟨d,hd⟩:∃ d,Hid (nth h.l i=d):=⟨_,Lib.hid rfl⟩
 rw [hd.out] at HD HG ⊢
 obtain ⟨df,dp,dz,dan,daw,dmn,dmw,ds⟩:=d
 unfold spv
 simp only at HD HG ⊢
 have HM:=Lib.hid m
 have hV:=m.hm.v
 obtain ⟨b0,b1,b2,b3,f0,f1,f2,f3⟩:=id m.box
 have hS8:Sp8 (w.alloc (.cells #[.int .i64 df,.int .i64 dp,.int .i64 dz,.int .i64 dan,.slice A daw.length ca,.int .i64 dmn,.slice M dmw.length cm,.bool ds] 72)) w.heap.size 0 ⟨df,dp,dz,dan,daw,dmn,dmw,ds⟩ A ca M cm:=Sp8.new w ⟨df,dp,dz,dan,daw,dmn,dmw,ds⟩ A ca M cm _
 clear m hl hR h1 hu ok hpl hsz hcap hi hL hU
 go_enter Tryz.func194,Tryz.ntmps194
 go_wp2_with fail
 go_region_with (go_at_call 243;refine (HD.out _ (hV.later bX)).mono ?_;rintro e w1 ⟨A1,c1,vs1,rfl,hvs1,o1,hb_w1⟩;have p3:w1.cell? ⟨b,3,none⟩=some (.slice v.V h.l.length v.cv):=cX hb_w1;have q3:w1.frozen? ⟨b,3,none⟩=false:=((bcell hb_w1).2 _ _ lX).trans (by first | assumption | (simp [go_sem];done) | exact (World.frozen?_alloc_past _ _ _ lX).trans (by assumption)))
 all_goals
  have hb_d:Below (w.alloc (.cells #[.int .i64 df,.int .i64 dp,.int .i64 dz,.int .i64 dan,.slice A daw.length ca,.int .i64 dmn,.slice M dmw.length cm,.bool ds] 72)).heap.size (w.alloc (.cells #[.int .i64 df,.int .i64 dp,.int .i64 dz,.int .i64 dan,.slice A daw.length ca,.int .i64 dmn,.slice M dmw.length cm,.bool ds] 72)) w1:=bX
  have hsz1:(w.alloc (.cells #[.int .i64 df,.int .i64 dp,.int .i64 dz,.int .i64 dan,.slice A daw.length ca,.int .i64 dmn,.slice M dmw.length cm,.bool ds] 72)).heap.size=w.heap.size + 1:=World.size_alloc _ _
  have hs1:=hb_d.size
  rw [hsz1] at hs1
  have hbw:Below w.heap.size w w1:=bX
  have hm1:=HM.out.later hbw
  have h81:=hS8.below hb_d (by omega)
  have aS:=o1.aptS_ge (b:=b) (by first | omega | (simp only [zN,zD,zA];omega))
  have oS:=o1.mono (B':=B) (by first | omega | (simp only [zN,zD,zA];omega))
  have hm2:=hm1.setV hvs1 oS aS
  have h82:=h81.far (p:=⟨b,3,none⟩) (by show b ≠ w.heap.size;omega) (.slice A1 L.length c1)
  have hb2:Below B w (w1.setCell ⟨b,3,none⟩ (.slice A1 L.length c1)):=(hbw.mono (by omega)).setCell (p:=⟨b,3,none⟩) hle _
  have hg2:w.grownBy (w1.setCell ⟨b,3,none⟩ (.slice A1 L.length c1)) (some b):=grown_trans (grown_some b hbw) (grown_setp w1 ⟨b,3,none⟩ (.slice A1 L.length c1))
  have hs2:w.heap.size + 1 ≤ (w1.setCell ⟨b,3,none⟩ (.slice A1 L.length c1)).heap.size:=by rw [World.size_setCell];exact hs1
  clear b0 b1 b2 b3 f0 f1 f2 f3 hb_d hbw hm1 h81 aS oS o1 hsz1 hs1 p3 q3 hb_w1 hS8
  generalize w1.setCell ⟨b,3,none⟩ (.slice A1 L.length c1)=w2 at *
  obtain ⟨b0,b1,b2,b3,f0,f1,f2,f3⟩:=id hm2.box
  obtain ⟨c0,c1',c2,c3,c4,c5,c6,c7⟩:=id h82
  have hU2:=hm2.u.row
  have HM2:=Lib.hid hm2
  have HB2:=Lib.hid hb2
  have HG2:=Lib.hid hg2
  have hbl2:=hm2.lt
  clear hm2 hb2 hg2
  go_wp2_with fail
  go_region_with (go_at_call 244;refine (HG.out _ (hU2.later bX)).mono ?_;rintro e w3 ⟨U3,cu3,rfl,o3,hb_w3⟩;have p1:w3.cell? ⟨b,1,none⟩=some (.int .i64 h.n):=cX hb_w3;have q1:w3.frozen? ⟨b,1,none⟩=false:=((bcell hb_w3).2 _ _ lX).trans (by first | assumption | (simp [go_sem];done) | exact (World.frozen?_alloc_past _ _ _ lX).trans (by assumption));have p2:w3.cell? ⟨b,2,none⟩=some (.slice v.U h.us.length v.cu):=cX hb_w3;have q2:w3.frozen? ⟨b,2,none⟩=false:=((bcell hb_w3).2 _ _ lX).trans (by first | assumption | (simp [go_sem];done) | exact (World.frozen?_alloc_past _ _ _ lX).trans (by assumption)))
  all_goals
   have hbw3:Below w2.heap.size w2 w3:=bX
   have hm3:=HM2.out.later hbw3
   have hm4:=hm3.setU (cu:=cu3) (o3.mono (B':=B) (by first | omega | (simp only [zN,zD,zA];omega))) (o3.apt (b:=b) (by first | omega | (simp only [zN,zD,zA];omega)))
   have hb4:Below B w ((w3.setCell ⟨b,1,none⟩ (.int .i64 h.n)).setCell ⟨b,2,none⟩ (.slice U3 U.length cu3)):=((HB2.out.trans (hbw3.mono (by omega))).setCell (p:=⟨b,1,none⟩) hle _).setCell (p:=⟨b,2,none⟩) hle _
   have HG4:Hid (w.grownBy ((w3.setCell ⟨b,1,none⟩ (.int .i64 h.n)).setCell ⟨b,2,none⟩ (.slice U3 U.length cu3)) (some b)):=Lib.hid (grown_trans HG2.out (grown_trans (grown_some b hbw3) (grown_trans (grown_setp w3 ⟨b,1,none⟩ (.int .i64 h.n)) (grown_setp (w3.setCell ⟨b,1,none⟩ (.int .i64 h.n)) ⟨b,2,none⟩ (.slice U3 U.length cu3)))))
   have HM4:=Lib.hid hm4
   have HB4:=Lib.hid hb4
   clear hm3 hm4 hb4 hbw3 o3 hb_w3 p1 p2 q1 q2 b0 b1 b2 b3 f0 f1 f2 f3 c0 c1' c2 c3 c4 c5 c6 c7
   go_wp2
   go_end0
   exact ⟨rfl,⟨_,HM4.out⟩,HB4.out,HG4.out⟩
def clnW (ws:List Nat) (z:Nat) (us:List Nat):Nat → List Nat
 | 0=>ws
 | k + 1=>overTo (clnW ws z us k) (us.getD k 0) (fun _=>0) z
theorem clnW_len (ws:List Nat) (z:Nat) (us:List Nat) (k:Nat):(clnW ws z us k).length=ws.length:=by
 induction k with
 | zero=>rfl
 | succ k ih=>rw [clnW,length_overTo,ih]
theorem clnW_at (ws:List Nat) (z:Nat) (us:List Nat) (k x:Nat):(clnW ws z us k).getD x 0=if ∃ j,j < k∧us.getD j 0 ≤ x∧x < us.getD j 0 + z then 0 else ws.getD x 0:=by
 induction k with
 | zero=>rw [if_neg (by rintro ⟨j,h,_⟩;omega)];rfl
 | succ k ih=>
  rw [clnW,overTo_at,ih,clnW_len]
  by_cases h1:us.getD k 0 ≤ x∧x < us.getD k 0 + z
  ·by_cases h2:x < ws.length
   ·rw [if_pos ⟨h1.1,h1.2,h2⟩,if_pos ⟨k,by omega,h1⟩]
   ·have hz:ws.getD x 0=0:=by rw [List.getD_eq_getElem?_getD,List.getElem?_eq_none (by omega)];rfl
    rw [if_neg (fun q=>h2 q.2.2),hz,ite_self,ite_self]
  ·rw [if_neg (fun q=>h1 ⟨q.1,q.2.1⟩)]
   by_cases h3:∃ j,j < k∧us.getD j 0 ≤ x∧x < us.getD j 0 + z
   ·obtain ⟨j,h4,h5⟩:=id h3
    rw [if_pos h3,if_pos ⟨j,by omega,h5⟩]
   ·rw [if_neg h3,if_neg]
    rintro ⟨j,h4,h5⟩
    by_cases e:j=k
    ·subst e;exact h1 h5
    ·exact h3 ⟨j,by omega,h5⟩
def clnD (d:Sd):Sd:=⟨d.f,d.p,d.z,d.an,bothTo d.aw d.mw d.mw.length,d.mn,d.mw,true⟩
def usD (d:Sd):List Nat:=unmA d (slN d)
def cl1H (h:Hp) (i:Nat):Hp:=⟨clnW h.ws (swd (nth h.l i)) (usD (nth h.l i)) (usD (nth h.l i)).length,h.n,h.us,h.l.set i (clnD (nth h.l i))⟩
theorem Ok1.cln_tb {d:Sd} (h:Ok1 d) (k:Nat):tb (clnD d).aw k=(tb d.aw k && tb d.mw k):=by
 have e:d.aw.length=d.mw.length:=by rw [h.aw,h.mw]
 show tb (bothTo d.aw d.mw d.mw.length) k=_
 rw [← e]
 exact tb_both _ _ _ e
theorem Ok1.cln {d:Sd} (h:Ok1 d):Ok1 (clnD d):=by
 refine ⟨h.sized,h.placed,⟨h.a.1,h.a.2.1,?_,fun i h1 h2=>?_⟩,h.an,h.m,h.mn,fun i hi ht=>?_⟩
 ·show (bothTo d.aw d.mw d.mw.length).length=_
  rw [length_bothTo]
  exact h.a.2.2.1
 ·rw [h.cln_tb,h.a.2.2.2 i h1 (by
   have h2:i < 64 * (bothTo d.aw d.mw d.mw.length).length:=h2
   rwa [length_bothTo] at h2)]
  rfl
 ·rw [h.cln_tb,h.sub i hi ht]
  exact ht
theorem unmA_of {d:Sd} {k j:Nat} (hj:j < k) (ha:tb d.aw j=true) (hm:tb d.mw j=false):slA d j ∈ unmA d k:=by
 induction k with
 | zero=>omega
 | succ k ih=>
  rw [unmA,List.mem_append]
  by_cases e:j=k
  ·subst e
   right
   rw [ha,hm]
   simp
  ·exact .inl (ih (by omega))
theorem cl1H_like {h:Hp} (hk:OkH h) {i:Nat} (hi:i < h.l.length):Like h (cl1H h i):=by
 refine ⟨rfl,rfl,by show _=_;exact clnW_len _ _ _ _,by simp [cl1H],fun j hj=>?_,fun j hj=>?_⟩
 ·show Pl _ (nth (h.l.set i _) j)
  rw [nth_set _ _ _ _ hi]
  split
  ·rename_i e;rw [e];exact ⟨rfl,rfl,rfl⟩
  ·exact Pl.refl _
 ·show Ok1 (nth (h.l.set i _) j)
  rw [nth_set _ _ _ _ hi]
  split
  ·exact (hk.framed.spans.at_ hi).cln
  ·exact hk.framed.spans.at_ hj
theorem cln_word {h:Hp} {i:Nat} (x:Nat):(cl1H h i).ws.getD x 0=if ∃ q,q < slN (nth h.l i)∧tb (nth h.l i).aw q=true∧tb (nth h.l i).mw q=false∧slA (nth h.l i) q ≤ x∧x < slA (nth h.l i) q + swd (nth h.l i) then 0 else h.ws.getD x 0:=by
 show (clnW h.ws _ (usD (nth h.l i)) (usD (nth h.l i)).length).getD x 0=_
 rw [clnW_at]
 have e:(∃ j,j < (usD (nth h.l i)).length∧(usD (nth h.l i)).getD j 0 ≤ x∧x < (usD (nth h.l i)).getD j 0 + swd (nth h.l i)) ↔ ∃ q,q < slN (nth h.l i)∧tb (nth h.l i).aw q=true∧tb (nth h.l i).mw q=false∧slA (nth h.l i) q ≤ x∧x < slA (nth h.l i) q + swd (nth h.l i):=by
  constructor
  ·rintro ⟨j,h1,h2,h3⟩
   have hm:(usD (nth h.l i)).getD j 0 ∈ usD (nth h.l i):=by
    rw [List.getD_eq_getElem?_getD,List.getElem?_eq_getElem h1]
    exact List.getElem_mem h1
   obtain ⟨q,q1,q2,q3,q4⟩:=unmA_mem hm
   rw [q4] at h2 h3
   exact ⟨q,q1,q2,q3,h2,h3⟩
  ·rintro ⟨q,q1,q2,q3,q4,q5⟩
   obtain ⟨j,hj,e⟩:=List.getElem_of_mem (unmA_of (k:=slN (nth h.l i)) q1 q2 q3)
   refine ⟨j,hj,?_⟩
   have e2:(usD (nth h.l i)).getD j 0=slA (nth h.l i) q:=by
    show (unmA (nth h.l i) (slN (nth h.l i))).getD j 0=_
    rw [List.getD_eq_getElem?_getD,List.getElem?_eq_getElem hj]
    exact e
   rw [e2]
   exact ⟨q4,q5⟩
 by_cases hx:∃ j,j < (usD (nth h.l i)).length∧(usD (nth h.l i)).getD j 0 ≤ x∧x < (usD (nth h.l i)).getD j 0 + swd (nth h.l i)
 ·rw [if_pos hx,if_pos (e.1 hx)]
 ·rw [if_neg hx,if_neg (fun q=>hx (e.2 q))]
theorem cln_keeps {h:Hp} (hk:OkH h) {i j k:Nat} (hi:i < h.l.length) (hj:j < h.l.length) (hk':k < slN (nth h.l j)) (hne:¬ (j=i∧tb (nth h.l i).aw k=true∧tb (nth h.l i).mw k=false)) {x:Nat} (h1:slA (nth h.l j) k ≤ x) (h2:x < slA (nth h.l j) k + swd (nth h.l j)):(cl1H h i).ws.getD x 0=h.ws.getD x 0:=by
 rw [cln_word,if_neg]
 rintro ⟨q,q1,q2,q3,q4,q5⟩
 obtain ⟨e1,e2⟩:=slot_one hk.framed hj hk' hi q1 h1 h2 q4 q5
 subst e2
 exact hne ⟨e1,q2,q3⟩
theorem cl1H_nth {h:Hp} {i:Nat} (hi:i < h.l.length) (j:Nat):nth (cl1H h i).l j=if j=i then clnD (nth h.l i) else nth h.l j:=nth_set _ _ _ _ hi
theorem cl1H_curW {h:Hp} (hk:OkH h) {i:Nat} (hi:i < h.l.length) (hs:(nth h.l i).s=false) {j k:Nat} (hj:j < h.l.length) (hk':k < slN (nth h.l j)):tb (curW (nth (cl1H h i).l j)) k=tb (curW (nth h.l j)) k:=by
 rw [cl1H_nth hi]
 split
 ·rename_i e
  subst e
  have ok:=hk.framed.spans.at_ hj
  show tb (clnD (nth h.l j)).aw k=_
  rw [ok.cln_tb]
  unfold curW
  rw [hs]
  show _=tb (nth h.l j).mw k
  cases hm:tb (nth h.l j).mw k with
  | false=>simp
  | true=>rw [ok.sub k hk' hm];rfl
 ·rfl
theorem cl1H_cur {h:Hp} (hk:OkH h) {i:Nat} (hi:i < h.l.length) (hs:(nth h.l i).s=false) (a:Nat):Cur (cl1H h i) a ↔ Cur h a:=
 cur_like (cl1H_like hk hi) (fun j q hj hq=>cl1H_curW hk hi hs hj hq) a
theorem cl1H_ok {h:Hp} (hk:OkH h) {i:Nat} (hi:i < h.l.length) (hs:(nth h.l i).s=false):OkH (cl1H h i):=by
 have L:=cl1H_like hk hi
 have oki:=hk.framed.spans.at_ hi
 refine hk.like L (fun x hx hn=>?_) (fun j k h1 h2=>?_) (fun j k h1 h2 hc=>?_)
 ·rw [cln_word,if_neg]
  rintro ⟨q,q1,_,_,q4,q5⟩
  exact hn i q hi q1 ⟨q4,q5⟩
 ·have so:=hk.filled.sound j h1 k h2
  have hw:=hk.slotW h1 h2
  by_cases e:j=i∧tb (nth h.l i).aw k=true∧tb (nth h.l i).mw k=false
  ·obtain ⟨rfl,e2,e3⟩:=e
   have ha:tb (nth (cl1H h j).l j).aw k=false:=by
    rw [cl1H_nth h1,if_pos rfl,oki.cln_tb,e3,Bool.and_false]
   refine ⟨fun ht=>?_,fun q _ hq=>?_⟩
   ·rw [ha] at ht;cases ht
   ·have p:=L.pl j h1
    rw [p.swd] at hq
    rw [p.slA,cln_word,if_pos ⟨k,h2,e2,e3,by omega,by omega⟩]
  ·refine slotOk_congr (L.pl j h1) ?_ (fun x h3 h4=>cln_keeps hk hi h1 h2 e h3 h4) (by omega) so
   rw [cl1H_nth hi]
   split
   ·rename_i ej
    subst ej
    rw [oki.cln_tb]
    cases hm:tb (nth h.l j).aw k with
    | false=>rfl
    | true=>
     cases hm2:tb (nth h.l j).mw k with
     | false=>exact absurd ⟨rfl,hm,hm2⟩ e
     | true=>rfl
   ·rfl
 ·rw [cl1H_curW hk hi hs h1 h2] at hc
  have old:=(linked_iff hk.framed.spans).1 hk.linked j k h1 h2 hc
  have ha':=(hk.framed.spans.at_ h1).cur_sub h2 hc
  obtain ⟨v1,v2,v3,v4,v5⟩:=hk.slot h1 h2 ha'
  refine (refsAt_congr (L.pl j h1) (fun x h3 h4=>cln_keeps hk hi h1 h2 ?_ h3 (by omega)) old).mono fun a=>(cl1H_cur hk hi hs a).2
  rintro ⟨rfl,_,e3⟩
  unfold curW at hc
  rw [hs] at hc
  have hc:tb (nth h.l j).mw k=true:=hc
  rw [e3] at hc
  cases hc
theorem droL_len {l:List Sd} {i:Nat} (hi:i < l.length):(droL l i).length=l.length - 1:=by
 unfold droL
 rw [List.length_append,List.length_take,List.length_drop]
 omega
theorem droL_nth {l:List Sd} {i:Nat} (hi:i < l.length) (j:Nat):nth (droL l i) j=nth l (if j < i then j else j + 1):=by
 unfold nth droL
 rw [List.getD_eq_getElem?_getD,List.getD_eq_getElem?_getD,List.getElem?_append,List.length_take]
 by_cases h:j < i
 ·rw [if_pos (by omega),if_pos h,List.getElem?_take,if_pos h]
 ·rw [if_neg (by omega),if_neg h,List.getElem?_drop,show i + 1 + (j - min i l.length)=j + 1 by omega]
theorem droL_old {l:List Sd} {i q:Nat} (hi:i < l.length) (hq:q < l.length) (hne:q ≠ i):∃ j,j < (droL l i).length∧nth (droL l i) j=nth l q:=by
 rw [droL_len hi]
 by_cases h:q < i
 ·exact ⟨q,by omega,by rw [droL_nth hi,if_pos h]⟩
 ·exact ⟨q - 1,by omega,by rw [droL_nth hi,if_neg (by omega),show q - 1 + 1=q by omega]⟩
theorem droL_case {l:List Sd} {i j:Nat} (hi:i < l.length) (hj:j < (droL l i).length):∃ q,q < l.length∧q ≠ i∧nth (droL l i) j=nth l q:=by
 rw [droL_len hi] at hj
 refine ⟨if j < i then j else j + 1,?_,?_,droL_nth hi j⟩
 ·split <;> omega
 ·split <;> omega
theorem droL_ok {l:List Sd} (h:OkL l) {i:Nat} (hi:i < l.length):OkL (droL l i):=by
 have h256:=h.1
 refine ⟨by rw [droL_len hi];omega,fun j hj=>?_,fun j hj=>?_⟩
 ·obtain ⟨q,q1,_,q3⟩:=droL_case hi hj
  rw [q3]
  exact h.at_ q1
 ·rw [droL_len hi] at hj
  rw [droL_nth hi,droL_nth hi]
  by_cases e1:j + 1 < i
  ·rw [if_pos (by omega),if_pos e1]
   exact h.farther (by omega) (by omega)
  ·by_cases e2:j < i
   ·rw [if_pos e2,if_neg e1]
    exact h.farther (by omega) (by omega)
   ·rw [if_neg e2,if_neg e1]
    exact h.farther (by omega) (by omega)
def Empty (d:Sd):Prop:=∀ k,k < slN d → tb d.aw k=false
theorem droH_cur {h:Hp} (hk:OkH h) {i:Nat} (hi:i < h.l.length) (he:Empty (nth h.l i)) (a:Nat):Cur (droH h i) a ↔ Cur h a:=by
 constructor
 ·rintro ⟨j,k,hj,hk1,hc,ha⟩
  have hj:j < (droL h.l i).length:=hj
  obtain ⟨q,q1,_,q3⟩:=droL_case hi hj
  have hk1:k < slN (nth (droL h.l i) j):=hk1
  have hc:tb (curW (nth (droL h.l i) j)) k=true:=hc
  have ha:slA (nth (droL h.l i) j) k=a:=ha
  rw [q3] at hk1 hc ha
  exact ⟨q,k,q1,hk1,hc,ha⟩
 ·rintro ⟨q,k,hq,hk1,hc,ha⟩
  have hne:q ≠ i:=by
   rintro rfl
   have:=(hk.framed.spans.at_ hq).cur_sub hk1 hc
   rw [he k hk1] at this
   cases this
  obtain ⟨j,j1,j2⟩:=droL_old hi hq hne
  refine ⟨j,k,j1,?_,?_,?_⟩
  ·show k < slN (nth (droL h.l i) j)
   rw [j2];exact hk1
  ·show tb (curW (nth (droL h.l i) j)) k=true
   rw [j2];exact hc
  ·show slA (nth (droL h.l i) j) k=a
   rw [j2];exact ha
theorem droH_ok {h:Hp} (hk:OkH h) {i:Nat} (hi:i < h.l.length) (he:Empty (nth h.l i)):OkH (droH h i):=by
 have ok:=hk.framed.spans.at_ hi
 have hin:=hk.owned.in_ i hi
 have hss:=ok.sized.slots
 have hus:=hk.framed.pages
 have hll:=hus.long
 have hL:=droL_ok hk.framed.spans hi
 have htb:∀ q,tb (fillW h.us (nth h.l i).f.toNat (nth h.l i).p.toNat false) q=if (nth h.l i).f.toNat ≤ q∧q < (nth h.l i).f.toNat + (nth h.l i).p.toNat then false else tb h.us q:=fun q=>tb_fillW _ _ _ _ _ (by omega)
 have hF:Framed (droH h i):=⟨hk.framed.words,right_fillW hus _ _ _ (by omega),hL,hk.framed.some_,hk.framed.long⟩
 have hsw:=ok.swd_eq
 refine ⟨hF,⟨fun j hj=>?_,fun q hq=>?_⟩,⟨fun q hq hz x hx=>?_,fun j hj k hk'=>?_⟩,(linked_iff hF.spans).2 fun j k hj hk' hc=>?_⟩
 ·have hj:j < (droL h.l i).length:=hj
  obtain ⟨q,q1,_,q3⟩:=droL_case hi hj
  show 1 ≤ (nth (droL h.l i) j).f∧(nth (droL h.l i) j).f + (nth (droL h.l i) j).p ≤ h.n
  rw [q3]
  exact hk.owned.in_ q q1
 ·have hq:(q:Int) < h.n:=hq
  show tb (fillW h.us (nth h.l i).f.toNat (nth h.l i).p.toNat false) q=true ↔ Has (droL h.l i) q
  rw [htb]
  constructor
  ·intro ht
   split at ht
   ·cases ht
   ·rename_i hout
    rcases (hk.owned.used q hq).1 ht with h1 | ⟨j,hj,h1,h2⟩
    ·exact .inl h1
    ·have hne:j ≠ i:=by
      rintro rfl
      exact hout ⟨by omega,by omega⟩
     obtain ⟨r,r1,r2⟩:=droL_old hi hj hne
     exact .inr ⟨r,r1,by rw [r2];exact h1,by rw [r2];exact h2⟩
  ·rintro (h1 | ⟨j,hj,h1,h2⟩)
   ·rw [if_neg (by omega)]
    exact (hk.owned.used q hq).2 (.inl h1)
   ·obtain ⟨r,r1,r0,r3⟩:=droL_case hi hj
    rw [r3] at h1 h2
    rw [if_neg]
    ·exact (hk.owned.used q hq).2 (.inr ⟨r,r1,h1,h2⟩)
    ·rintro ⟨g1,g2⟩
     rcases Nat.lt_or_gt_of_ne r0 with hlt | hgt
     ·have:=hk.framed.spans.farther hlt hi
      omega
     ·have:=hk.framed.spans.farther hgt r1
      omega
 ·have hq:(q:Int) < h.n:=hq
  have hz:q=0 ∨ tb (fillW h.us (nth h.l i).f.toNat (nth h.l i).p.toNat false) q=false:=hz
  show h.ws.getD (q * 16 + x) 0=0
  rw [htb] at hz
  by_cases hr:(nth h.l i).f.toNat ≤ q∧q < (nth h.l i).f.toNat + (nth h.l i).p.toNat
  ·obtain ⟨y,hy⟩:∃ y:Nat,y=q * 16 + x - (nth h.l i).f.toNat * 16:=⟨_,rfl⟩
   obtain ⟨s,hs⟩:∃ s,swd (nth h.l i)=s:=⟨_,rfl⟩
   obtain ⟨m,hm⟩:∃ m,slN (nth h.l i)=m:=⟨_,rfl⟩
   have hsw1:=hsw.1
   have hsw2:=hsw.2.1
   rw [hs] at hsw1 hsw2
   rw [hm] at hsw1
   have hy2:y < m * s:=by omega
   have hk1:y / s < m:=by
    rw [Nat.div_lt_iff_lt_mul (by omega)]
    exact hy2
   have so:=hk.filled.sound i hi (y / s) (by rw [hm];exact hk1)
   have ha:=he (y / s) (by rw [hm];exact hk1)
   have hA:=ok.slA_nat (k:=y / s) (by rw [hm];exact hk1)
   rw [hs] at hA
   have h0:=so.rest (y % s) (by unfold takN;rw [ha];simp) (by rw [hs];exact Nat.mod_lt _ (by omega))
   have hd:=Nat.div_add_mod y s
   rw [Nat.mul_comm] at hd
   rw [hA] at h0
   rwa [show (nth h.l i).f.toNat * 16 + y / s * s + y % s=q * 16 + x by omega] at h0
  ·rw [if_neg hr] at hz
   exact hk.filled.free q hq hz x hx
 ·have hj:j < (droL h.l i).length:=hj
  obtain ⟨q,q1,_,q3⟩:=droL_case hi hj
  have hk':k < slN (nth (droL h.l i) j):=hk'
  show SlotOk h.ws (nth (droL h.l i) j) k
  rw [q3] at hk' ⊢
  exact hk.filled.sound q q1 k hk'
 ·have hj:j < (droL h.l i).length:=hj
  obtain ⟨q,q1,_,q3⟩:=droL_case hi hj
  have hk':k < slN (nth (droL h.l i) j):=hk'
  have hc:tb (curW (nth (droL h.l i) j)) k=true:=hc
  show RefsAt h.ws (Cur (droH h i)) (nth (droL h.l i) j) k
  rw [q3] at hk' hc ⊢
  exact ((linked_iff hk.framed.spans).1 hk.linked q k q1 hk' hc).mono fun a=>(droH_cur hk hi he a).2
def clnH (h:Hp) (i:Nat):Hp:=if countTo (clnD (nth h.l i)).aw (nth h.l i).an.toNat=0 then droH (cl1H h i) i else cl1H h i
theorem count_none {ws:List Nat} {n:Nat} (h:countTo ws n=0):∀ k,k < n → tb ws k=false:=by
 rw [countTo_cntB] at h
 induction n with
 | zero=>intro k hk;omega
 | succ n ih=>
  intro k hk
  rw [cntB] at h
  by_cases e:k=n
  ·subst e
   cases hb:tb ws k with
   | false=>rfl
   | true=>rw [hb] at h;simp at h
  ·exact ih (by omega) k (by omega)
theorem cln_empty {h:Hp} (hk:OkH h) {i:Nat} (hi:i < h.l.length) (h0:countTo (clnD (nth h.l i)).aw (nth h.l i).an.toNat=0):Empty (nth (cl1H h i).l i):=by
 rw [cl1H_nth hi,if_pos rfl]
 intro k hk'
 have ok:=hk.framed.spans.at_ hi
 have h1:=ok.slK
 have h2:=ok.an
 have hk':k < slN (nth h.l i):=hk'
 exact count_none h0 k (by omega)
theorem clnH_ok {h:Hp} (hk:OkH h) {i:Nat} (hi:i < h.l.length) (hs:(nth h.l i).s=false):OkH (clnH h i):=by
 unfold clnH
 split
 ·rename_i h0
  exact droH_ok (cl1H_ok hk hi hs) (by rw [(cl1H_like hk hi).l];exact hi) (cln_empty hk hi h0)
 ·exact cl1H_ok hk hi hs
theorem OwnsH.nil {w:World} {B:Nat} {v:Hv} {h:Hp} (o:OwnsH w B v h):v.V=none → v.cv=0:=by
 obtain ⟨vs,e,h1⟩:=o.s
 exact (owns_cap h1.row_).2
theorem fn_case {h:Hp} (hk:OkH h) {a:Nat} (hy:fnY h a=0):∃ j k,j < h.l.length∧k < slN (nth h.l j)∧tb (curW (nth h.l j)) k=true∧slA (nth h.l j) k=a∧fnO h a=obAt h.ws (nth h.l j) j k:=by
 obtain ⟨h1,h2⟩:=fnO_mem hy
 obtain ⟨j,k,hj,hk',hc,e⟩:=(cursH_iff hk.framed.spans _).1 h1
 refine ⟨j,k,hj,hk',hc,?_,e⟩
 rw [← h2,e]
 rfl
theorem exB_iff {h:Hp} (hk:OkH h) (x:Nat):exB h x=true ↔ (x=0 ∨ Cur h x):=by
 unfold exB
 rw [decide_eq_true_iff]
 exact leads_iff hk.framed.spans x
theorem SrE.zero {h:Hp} (hk:OkH h) {a:Nat} {f:Int} {x:Nat} {r:Bool} (hE:SrE h a f x r 0) :
  ∃ j k,j < h.l.length∧k < slN (nth h.l j)∧tb (curW (nth h.l j)) k=true∧slA (nth h.l j) k=a∧fnO h a=obAt h.ws (nth h.l j) j k∧0 ≤ f∧f < unN (h.ws.getD a 0)∧(unM (h.ws.getD a 0)).testBit f.toNat=r∧(r=true → x=0 ∨ Cur h x):=by
 rcases hE with ⟨h1,h2⟩ | ⟨_,_,h2⟩ | ⟨_,_,_,h2⟩ | ⟨_,_,_,_,_,h2⟩ | ⟨h1,h2,h3,h4,_⟩
 ·exact absurd h2.symm h1
 ·cases h2
 ·cases h2
 ·cases h2
 ·obtain ⟨j,k,hj,hk',hc,ha,e⟩:=fn_case hk h1
  rw [e] at h2 h3
  subst ha
  exact ⟨j,k,hj,hk',hc,rfl,e,h2.1,h2.2,h3,fun hr=>(exB_iff hk x).1 (h4 hr)⟩
theorem StoE.ok {h:Hp} {a:Nat} {f:Int} {x:Nat} {r:Bool} {h':Hp} {y:Int} (hE:StoE h a f x r h' y) (hk:OkH h):OkH h':=by
 rcases hE with ⟨h1,_⟩ | ⟨_,_,_,rfl⟩ | ⟨_,hs,h0,rfl⟩
 ·exact absurd hk h1
 ·exact hk
 ·subst h0
  obtain ⟨j,k,hj,hk',hc,rfl,e,f0,f1,hb,hx⟩:=hs.zero hk
  have hf:((f.toNat:Nat):Int) < unN (h.ws.getD (slA (nth h.l j) k) 0):=by omega
  exact stoH_ok hk hj hk' ((hk.framed.spans.at_ hj).cur_sub hk' hc) hf fun ht=>hx (by rw [← hb];exact ht)
theorem MarE.ok {h:Hp} {a:Nat} {h':Hp} {b:Bool} {y:Int} (hE:MarE h a h' b y) (hk:OkH h):OkH h':=by
 rcases hE with ⟨h1,_⟩ | ⟨_,_,rfl,_⟩ | ⟨_,h0,rfl,_⟩
 ·exact absurd hk h1
 ·exact hk
 ·obtain ⟨j,k,hj,hk',hc,ha,e⟩:=fn_case hk h0
  rw [e]
  exact marH_ok hk hj hk' hc
theorem UnmE.ok {h:Hp} {h':Hp} {y:Int} (hE:UnmE h h' y) (hk:OkH h):OkH h':=by
 rcases hE with ⟨h1,_⟩ | ⟨_,_,rfl,_⟩ | ⟨_,hs,rfl,_⟩
 ·exact absurd hk h1
 ·exact hk
 ·exact unmH_ok hk hs
theorem TrnE.ok {h:Hp} {h':Hp} {y:Int} (hE:TrnE h h' y) (hk:OkH h):OkH h':=by
 rcases hE with ⟨h1,_⟩ | ⟨_,_,rfl,_⟩ | ⟨_,_,_,rfl,_⟩ | ⟨_,_,hc,rfl,_⟩
 ·exact absurd hk h1
 ·exact hk
 ·exact hk
 ·exact trnH_ok hk hc
theorem NewE.made {h:Hp} {n:Int} {m:Nat} {bl:Bool} {h':Hp} {a:Nat} (hE:NewE h n m bl h' a 0):OkH h∧OkH h'∧Sh n m∧(∀ x,Cur h' x ↔ (Cur h x ∨ x=a))∧¬ Cur h a ∧
  ∃ (I K:Nat) (h1:Hp),OkH h1∧(∀ x,Cur h1 x ↔ Cur h x)∧h1.ws=h.ws∧h1.n=h.n∧I < h1.l.length∧K < slN (nth h1.l I)∧(nth h1.l I).s=true∧tb (nth h1.l I).aw K=false∧fitsB n (nth h1.l I)=true∧h'=plcH h1 I K n m bl∧a=slA (nth h1.l I) K:=by
 rcases hE with ⟨_,_,_,h2⟩ | ⟨_,_,_,_,h2⟩ | ⟨_,_,_,h2,_⟩ | ⟨hk,hsh,_,I,K,h1,hR,rfl,rfl⟩
 ·cases h2
 ·cases h2
 ·exact absurd rfl h2
 ·have hs:0 ≤ n∧n ≤ 48:=by unfold Sh at hsh;omega
  rcases hR.does hk hs.1 hs.2 with ⟨h2,_⟩ | ⟨_,ok1,hcur,hws,hn,I',K',eI,eK,hI,hK,hsw,hfree,hfit⟩
  ·exact absurd rfl h2
  obtain rfl:I=I':=by omega
  obtain rfl:K=K':=by omega
  refine ⟨hk,plcH_ok ok1 hI hK hsw hfree hsh hfit bl,hsh,fun x=>?_,fun hc=>?_,I,K,h1,ok1,hcur,hws,hn,hI,hK,hsw,hfree,hfit,rfl,rfl⟩
  ·rw [plcH_cur ok1 hI hK hsw,hcur]
  ·obtain ⟨j,k,hj,hk',hcc,ha⟩:=(hcur _).2 hc
   have w1:=ok1.slotW hI hK
   have w2:=ok1.slotW hj hk'
   obtain ⟨rfl,rfl⟩:=slot_one ok1.framed hj hk' hI hK (i:=slA (nth h1.l I) K) (by omega) (by omega) (Nat.le_refl _) (by omega)
   have:=(ok1.framed.spans.at_ hj).cur_sub hk' hcc
   rw [hfree] at this
   cases this
theorem NewE.ok {h:Hp} {n:Int} {m:Nat} {bl:Bool} {h':Hp} {a:Nat} {y:Int} (hE:NewE h n m bl h' a y) (hk:OkH h):OkH h':=by
 by_cases h0:y=0
 ·subst h0
  exact hE.made.2.1
 ·rcases hE with ⟨h1,_⟩ | ⟨_,_,rfl,_⟩ | ⟨_,hsh,⟨i,k,hR⟩,h2,_⟩ | ⟨_,_,h2,_⟩
  ·exact absurd hk h1
  ·exact hk
  ·have hs:0 ≤ n∧n ≤ 48:=by unfold Sh at hsh;omega
   rcases hR.does hk hs.1 hs.2 with ⟨_,_,_,_,rfl⟩ | ⟨h3,_⟩
   ·exact hk
   ·exact absurd h3 h2
  ·exact absurd h2 h0
theorem NewE.refused {h:Hp} {n:Int} {m:Nat} {bl:Bool} {h':Hp} {a:Nat} {y:Int} (hE:NewE h n m bl h' a y) (hk:OkH h) (hy:y ≠ 0):h'=h∧a=0:=by
 rcases hE with ⟨h1,_⟩ | ⟨_,_,rfl,e,_⟩ | ⟨_,hsh,⟨i,k,hR⟩,h2,e⟩ | ⟨_,_,h2,_⟩
 ·exact absurd hk h1
 ·exact ⟨rfl,e⟩
 ·have hs:0 ≤ n∧n ≤ 48:=by unfold Sh at hsh;omega
  rcases hR.does hk hs.1 hs.2 with ⟨_,_,_,_,rfl⟩ | ⟨h3,_⟩
  ·exact ⟨rfl,e⟩
  ·exact absurd h3 h2
 ·exact absurd h2 hy
theorem StoE.refused {h:Hp} {a:Nat} {f:Int} {x:Nat} {r:Bool} {h':Hp} {y:Int} (hE:StoE h a f x r h' y) (hk:OkH h) (hy:y ≠ 0):h'=h:=by
 rcases hE with ⟨h1,_⟩ | ⟨_,_,_,e⟩ | ⟨_,_,h0,_⟩
 ·exact absurd hk h1
 ·exact e
 ·exact absurd h0 hy
theorem MarE.refused {h:Hp} {a:Nat} {h':Hp} {b:Bool} {y:Int} (hE:MarE h a h' b y) (hk:OkH h) (hy:y ≠ 0):h'=h∧b=false:=by
 rcases hE with ⟨h1,_⟩ | ⟨_,_,e,e2,_⟩ | ⟨_,_,_,_,h0⟩
 ·exact absurd hk h1
 ·exact ⟨e,e2⟩
 ·exact absurd h0 hy
def ClnE (h:Hp) (f:Int) (h':Hp) (t:List Nat) (y:Int):Prop:=(¬ OkH h∧h'=hp0∧t=[]∧y=2) ∨ (OkH h∧IdxE h.l (fun d=>d.f == f) (-1)∧h'=h∧t=[]∧y=3) ∨
 (∃ i:Nat,OkH h∧IdxE h.l (fun d=>d.f == f) (i:Int)∧(nth h.l i).s=true∧h'=h∧t=[]∧y=5) ∨ (∃ i:Nat,OkH h∧IdxE h.l (fun d=>d.f == f) (i:Int)∧(nth h.l i).s=false∧h'=clnH h i∧t=usD (nth h.l i)∧y=0)
theorem ClnE.ex (h:Hp) (f:Int):∃ h' t y,ClnE h f h' t y:=by
 by_cases hk:OkH h
 ·obtain ⟨r,hr⟩:=IdxE.ex h.l fun d=>d.f == f
  rcases hr with ⟨rfl,h1⟩ | ⟨i,rfl,h1⟩
  ·exact ⟨_,_,_,.inr (.inl ⟨hk,.inl ⟨rfl,h1⟩,rfl,rfl,rfl⟩)⟩
  ·rcases hs:(nth h.l i).s with _ | _
   ·exact ⟨_,_,_,.inr (.inr (.inr ⟨i,hk,.inr ⟨i,rfl,h1⟩,hs,rfl,rfl,rfl⟩))⟩
   ·exact ⟨_,_,_,.inr (.inr (.inl ⟨i,hk,.inr ⟨i,rfl,h1⟩,hs,rfl,rfl,rfl⟩))⟩
 ·exact ⟨_,_,_,.inl ⟨hk,rfl,rfl,rfl⟩⟩
theorem ClnE.ok {h:Hp} {f:Int} {h':Hp} {t:List Nat} {y:Int} (hE:ClnE h f h' t y) (hk:OkH h):OkH h':=by
 rcases hE with ⟨h1,_⟩ | ⟨_,_,rfl,_⟩ | ⟨i,_,_,_,rfl,_⟩ | ⟨i,_,hI,hs,rfl,_⟩
 ·exact absurd hk h1
 ·exact hk
 ·exact hk
 ·exact clnH_ok hk hI.lt hs
structure Sc where
 h:Hp
 n:Int
 os:List Nat
 fa:Nat
 go:Nat
def misW (s:Sc):List Nat:=bothTo s.os s.h.us s.h.us.length
structure OkS (s:Sc):Prop where
 h:OkH s.h
 o:Right s.n s.os
 n:s.n=s.h.n
 m:countTo (misW s) s.n.toNat=0
theorem count_zero {ws:List Nat} {n:Nat} (h:∀ k,k < n → tb ws k=false):countTo ws n=0:=by
 induction n with
 | zero=>rfl
 | succ n ih=>rw [countTo,ih fun k hk=>h k (by omega),h n (by omega)];rfl
theorem count_skip {ws:List Nat} {a b:Nat} (hab:a ≤ b) (h:∀ j,a ≤ j → j < b → tb ws j=false):countTo ws b=countTo ws a:=by
 induction b with
 | zero=>obtain rfl:a=0:=by omega
         rfl
 | succ b ih=>
  by_cases e:a=b + 1
  ·rw [e]
  ·rw [countTo,ih (by omega) fun j h1 h2=>h j h1 (by omega),h b (by omega) (by omega)];rfl
theorem OkS.us {s:Sc} (k:OkS s):Right s.n s.h.us:=by rw [k.n];exact k.h.framed.pages
theorem OkS.len {s:Sc} (k:OkS s):s.os.length=s.h.us.length:=right_same k.o k.us
theorem both_tb {a b:List Nat} (hl:a.length=b.length) (i:Nat):tb (bothTo a b b.length) i=(tb a i && tb b i):=by rw [← hl];exact tb_both a b i hl
theorem right_both {n:Int} {a b:List Nat} (h:Right n a) (hl:a.length=b.length):Right n (bothTo a b b.length):=
 ⟨h.1,h.2.1,by rw [length_bothTo];exact h.2.2.1,fun i h1 h2=>by
  rw [length_bothTo] at h2
  rw [both_tb hl,h.2.2.2 i h1 h2]
  rfl⟩
theorem OkS.apart {s:Sc} (k:OkS s) {i:Nat} (hi:i < s.n.toNat) (ho:tb s.os i=true):tb s.h.us i=false:=by
 have h1:=count_none k.m i hi
 unfold misW at h1
 rw [both_tb k.len,ho] at h1
 simpa using h1
theorem okS_of {s:Sc} (h:OkH s.h) (o:Right s.n s.os) (n:s.n=s.h.n) (m:∀ i,i < s.n.toNat → tb s.os i=true → tb s.h.us i=false):OkS s:=by
 refine ⟨h,o,n,count_zero fun k hk=>?_⟩
 unfold misW
 rw [both_tb (right_same o (by rw [n];exact h.framed.pages))]
 rcases ho:tb s.os k with _ | _
 ·rfl
 ·rw [m k hk ho];rfl
def relW (us:List Nat):Nat → List Nat → Nat → List Nat
 | 0,os,_=>os
 | k + 1,os,m=>if m=0 then os else if (!tb us k && !tb os k)=true then relW us k (putW os k true) (m - 1) else relW us k os m
def relG (us:List Nat):Nat → List Nat → Nat → Nat
 | 0,_,_=>0
 | k + 1,os,m=>if m=0 then 0 else if (!tb us k && !tb os k)=true then relG us k (putW os k true) (m - 1) + 1 else relG us k os m
theorem relW_zero (us:List Nat) (k:Nat) (os:List Nat):relW us k os 0=os:=by cases k <;> simp [relW]
theorem relG_zero (us:List Nat) (k:Nat) (os:List Nat):relG us k os 0=0:=by cases k <;> simp [relG]
theorem relW_hit (us:List Nat) (k:Nat) (os:List Nat) (m:Nat) (hm:m ≠ 0) (h:(!tb us k && !tb os k)=true):relW us (k + 1) os m=relW us k (putW os k true) (m - 1):=by rw [relW,if_neg hm,if_pos h]
theorem relG_hit (us:List Nat) (k:Nat) (os:List Nat) (m:Nat) (hm:m ≠ 0) (h:(!tb us k && !tb os k)=true):relG us (k + 1) os m=relG us k (putW os k true) (m - 1) + 1:=by rw [relG,if_neg hm,if_pos h]
theorem relW_miss (us:List Nat) (k:Nat) (os:List Nat) (m:Nat) (h:(!tb us k && !tb os k)=false):relW us (k + 1) os m=relW us k os m:=by
 by_cases hm:m=0
 ·subst hm;rw [relW_zero,relW_zero]
 ·rw [relW,if_neg hm,h,if_neg (by simp)]
theorem relG_miss (us:List Nat) (k:Nat) (os:List Nat) (m:Nat) (h:(!tb us k && !tb os k)=false):relG us (k + 1) os m=relG us k os m:=by
 by_cases hm:m=0
 ·subst hm;rw [relG_zero,relG_zero]
 ·rw [relG,if_neg hm,h,if_neg (by simp)]
structure RelP (us:List Nat) (k:Nat) (os:List Nat) (m:Nat) (n:Int):Prop where
 right:Right n (relW us k os m)
 le:relG us k os m ≤ m
 count:countTo (relW us k os m) n.toNat=countTo os n.toNat + relG us k os m
 new:∀ i,tb (relW us k os m) i=true → tb os i=true ∨ (i < k∧tb us i=false)
 old:∀ i,tb os i=true → tb (relW us k os m) i=true
 all:relG us k os m < m → ∀ i,i < k → tb us i=false → tb (relW us k os m) i=true
theorem relP (us:List Nat) (n:Int) (k:Nat):∀ (os:List Nat) (m:Nat),(k:Int) ≤ n → Right n os → RelP us k os m n:=by
 induction k with
 | zero=>
  intro os m hk h
  exact ⟨h,Nat.zero_le _,rfl,fun i hi=>.inl hi,fun i hi=>hi,fun _ i hi=>by omega⟩
 | succ k ih=>
  intro os m hk h
  by_cases hm:m=0
  ·subst hm
   refine ⟨by rw [relW_zero];exact h,by rw [relG_zero];omega,by rw [relW_zero,relG_zero];rfl,fun i hi=>?_,fun i hi=>by rw [relW_zero];exact hi,fun hlt=>by omega⟩
   rw [relW_zero] at hi
   exact .inl hi
  ·have hl:=h.long
   rcases hb:(!tb us k && !tb os k) with _ | _
   ·have p:=ih os m (by omega) h
    have e1:=relW_miss us k os m hb
    have e2:=relG_miss us k os m hb
    refine ⟨by rw [e1];exact p.right,by rw [e2];exact p.le,by rw [e1,e2];exact p.count,fun i hi=>?_,fun i hi=>by rw [e1];exact p.old i hi,fun hlt i hi hu=>?_⟩
    ·rw [e1] at hi
     exact (p.new i hi).imp id fun h=>⟨by omega,h.2⟩
    ·rw [e2] at hlt
     rw [e1]
     by_cases e:i=k
     ·subst e
      rw [hu] at hb
      refine p.old i ?_
      simpa using hb
     ·exact p.all hlt i (by omega) hu
   ·have p:=ih (putW os k true) (m - 1) (by omega) (right_putW h k true (by omega))
    have e1:=relW_hit us k os m hm hb
    have e2:=relG_hit us k os m hm hb
    have hb2:tb us k=false∧tb os k=false:=by simpa using hb
    have hpt:∀ i,tb (putW os k true) i=if i=k then true else tb os i:=fun i=>tb_putW os k i true (by omega)
    refine ⟨by rw [e1];exact p.right,by rw [e2];have:=p.le;omega,?_,fun i hi=>?_,fun i hi=>?_,fun hlt i hi hu=>?_⟩
    ·rw [e1,e2,p.count]
     have hc:=countTo_putW os k true n.toNat (by omega)
     rw [if_pos (by omega),hb2.2] at hc
     simp [b2i] at hc
     omega
    ·rw [e1] at hi
     rcases p.new i hi with h1 | h1
     ·rw [hpt] at h1
      by_cases e:i=k
      ·subst e;exact .inr ⟨by omega,hb2.1⟩
      ·rw [if_neg e] at h1;exact .inl h1
     ·exact .inr ⟨by omega,h1.2⟩
    ·rw [e1]
     refine p.old i ?_
     rw [hpt]
     split
     ·rfl
     ·exact hi
    ·rw [e2] at hlt
     rw [e1]
     by_cases e:i=k
     ·subst e
      refine p.old i ?_
      rw [hpt,if_pos rfl]
     ·exact p.all (by omega) i (by omega) hu
def recW (ms:List Nat):Nat → List Nat → List Nat
 | 0,os=>os
 | p + 1,os=>if tb ms p=true then putW (recW ms p os) p false else recW ms p os
theorem recW_len (ms:List Nat) (p:Nat) (os:List Nat):(recW ms p os).length=os.length:=by
 induction p with
 | zero=>rfl
 | succ p ih=>rw [recW];split
              ·rw [length_putW,ih]
              ·exact ih
theorem recW_right {n:Int} (ms:List Nat) {os:List Nat} (h:Right n os) (p:Nat) (hp:(p:Int) ≤ n):Right n (recW ms p os):=by
 induction p with
 | zero=>exact h
 | succ p ih=>
  rw [recW]
  split
  ·exact right_putW (ih (by omega)) p false (by omega)
  ·exact ih (by omega)
theorem recW_tb (ms os:List Nat) (p:Nat) (hp:p ≤ 64 * os.length) (i:Nat):tb (recW ms p os) i=(tb os i && !(decide (i < p) && tb ms i)):=by
 induction p with
 | zero=>simp [recW]
 | succ p ih=>
  have ih:=ih (by omega)
  rw [recW]
  by_cases hm:tb ms p=true
  ·rw [if_pos hm,tb_putW _ _ _ _ (by rw [recW_len];omega),ih]
   by_cases e:i=p
   ·subst e
    simp [hm]
   ·rw [if_neg e]
    have:decide (i < p + 1)=decide (i < p):=by
     rw [decide_eq_decide];omega
    rw [this]
  ·rw [if_neg hm,ih]
   by_cases e:i=p
   ·subst e
    have:tb ms i=false:=by simpa using hm
    simp [this]
   ·have:decide (i < p + 1)=decide (i < p):=by
     rw [decide_eq_decide];omega
    rw [this]
theorem recW_skip (ms os:List Nat) {a b:Nat} (hab:a ≤ b) (h:∀ j,a ≤ j → j < b → tb ms j=false):recW ms b os=recW ms a os:=by
 induction b with
 | zero=>obtain rfl:a=0:=by omega
         rfl
 | succ b ih=>
  by_cases e:a=b + 1
  ·rw [e]
  ·rw [recW,h b (by omega) (by omega),if_neg (by simp),ih (by omega) fun j h1 h2=>h j h1 (by omega)]
def newSc (s:Sc) (h':Hp):Sc:=⟨h',s.n,recW (bothTo s.os h'.us h'.us.length) s.n.toNat s.os,(s.fa + countTo (bothTo s.os h'.us h'.us.length) s.n.toNat) % W64,s.go⟩
def relSc (s:Sc) (m:Nat):Sc:=⟨s.h,s.n,relW s.h.us s.n.toNat s.os m,s.fa,(s.go + relG s.h.us s.n.toNat s.os m) % W64⟩
theorem OkS.nn {s:Sc} (k:OkS s):0 ≤ s.n∧s.n ≤ 4096∧s.n.toNat ≤ 64 * s.os.length:=by
 have:=k.o.1
 have:=k.o.2.1
 have:=k.o.long
 omega
theorem newSc_ok {s:Sc} (k:OkS s) {h':Hp} (hk:OkH h') (hn:h'.n=s.h.n):OkS (newSc s h'):=by
 obtain ⟨n0,n1,n2⟩:=k.nn
 have hl:s.os.length=h'.us.length:=right_same k.o (by rw [k.n,← hn];exact hk.framed.pages)
 refine okS_of hk (recW_right _ k.o _ (by omega)) (by show s.n=h'.n;rw [hn];exact k.n) fun i hi ho=>?_
 have hi:i < s.n.toNat:=hi
 have ho:tb (recW (bothTo s.os h'.us h'.us.length) s.n.toNat s.os) i=true:=ho
 rw [recW_tb _ _ _ n2,both_tb hl,decide_eq_true hi] at ho
 show tb h'.us i=false
 rcases h1:tb h'.us i with _ | _
 ·rfl
 ·rw [h1] at ho
  simp at ho
theorem relSc_ok {s:Sc} (k:OkS s) (m:Nat):OkS (relSc s m):=by
 obtain ⟨n0,n1,n2⟩:=k.nn
 have p:=relP s.h.us s.n s.n.toNat s.os m (by omega) k.o
 refine okS_of k.h p.right k.n fun i hi ho=>?_
 rcases p.new i ho with h1 | h1
 ·exact k.apart hi h1
 ·exact h1.2
theorem count_two {a b:List Nat} {n:Nat} (h:∀ i,i < n → tb a i=true → tb b i=false):countTo a n + countTo b n ≤ n:=by
 induction n with
 | zero=>simp [countTo]
 | succ n ih=>
  have ih:=ih fun i hi=>h i (by omega)
  have hn:=h n (by omega)
  rw [countTo,countTo]
  rcases ha:tb a n with _ | _
  ·rcases hb:tb b n with _ | _ <;> simp <;> omega
  ·rw [hn ha];simp;omega
theorem OkS.two {s:Sc} (k:OkS s):countTo s.os s.n.toNat + countTo s.h.us s.n.toNat ≤ s.n.toNat:=count_two fun i hi ho=>k.apart hi ho
theorem NewE.n {h:Hp} {n:Int} {m:Nat} {bl:Bool} {h':Hp} {a:Nat} {y:Int} (hE:NewE h n m bl h' a y) (hk:OkH h):h'.n=h.n:=by
 rcases hE with ⟨h1,_⟩ | ⟨_,_,rfl,_⟩ | ⟨_,hs,⟨i,k,hr⟩,hy,_⟩ | ⟨_,hs,_,I,K,h1,hr,rfl,_⟩
 ·exact absurd hk h1
 ·rfl
 ·rcases hr.does hk hs.1 hs.2.1 with ⟨_,_,_,_,e⟩ | ⟨e,_⟩
  ·rw [e]
  ·exact absurd e hy
 ·rcases hr.does hk hs.1 hs.2.1 with ⟨e,_⟩ | ⟨_,_,_,_,e,_⟩
  ·exact absurd rfl e
  ·exact e
def clnSc (s:Sc) (h':Hp):Sc:=⟨h',s.n,s.os,s.fa,s.go⟩
structure E8 (w:World) (b:Nat) (v0 v1 v2 v3 v4 v5 v6 v7:Value):Prop where
 c0:w.cell? ⟨b,0,none⟩=some v0
 c1:w.cell? ⟨b,1,none⟩=some v1
 c2:w.cell? ⟨b,2,none⟩=some v2
 c3:w.cell? ⟨b,3,none⟩=some v3
 c4:w.cell? ⟨b,4,none⟩=some v4
 c5:w.cell? ⟨b,5,none⟩=some v5
 c6:w.cell? ⟨b,6,none⟩=some v6
 c7:w.cell? ⟨b,7,none⟩=some v7
 f:∀ i,w.frozen? ⟨b,i,none⟩=false
section
variable {w w':World} {b:Nat} {v0 v1 v2 v3 v4 v5 v6 v7:Value}
theorem E8.lt (h:E8 w b v0 v1 v2 v3 v4 v5 v6 v7):b < w.heap.size:=World.block_lt_of_cell? w _ h.c0
theorem E8.below {B:Nat} (h:E8 w b v0 v1 v2 v3 v4 v5 v6 v7) (hb:Below B w w') (hB:b < B):E8 w' b v0 v1 v2 v3 v4 v5 v6 v7:=
 ⟨((bcell hb).1 _ _ hB).trans h.c0,((bcell hb).1 _ _ hB).trans h.c1,((bcell hb).1 _ _ hB).trans h.c2,((bcell hb).1 _ _ hB).trans h.c3,((bcell hb).1 _ _ hB).trans h.c4,((bcell hb).1 _ _ hB).trans h.c5,((bcell hb).1 _ _ hB).trans h.c6,((bcell hb).1 _ _ hB).trans h.c7,fun i=>((bcell hb).2 _ _ hB).trans (h.f i)⟩
theorem E8.later (h:E8 w b v0 v1 v2 v3 v4 v5 v6 v7) (hb:Below w.heap.size w w'):E8 w' b v0 v1 v2 v3 v4 v5 v6 v7:=h.below hb h.lt
theorem E8.far (h:E8 w b v0 v1 v2 v3 v4 v5 v6 v7) {p:Addr} (hp:p.block ≠ b) (u:Value):E8 (w.setCell p u) b v0 v1 v2 v3 v4 v5 v6 v7:=
 have k:∀ i,(⟨b,i,none⟩:Addr) ≠ p:=fun i e=>hp (by rw [← e])
 ⟨(cO _ _ _ _ (k 0).symm).trans h.c0,(cO _ _ _ _ (k 1).symm).trans h.c1,(cO _ _ _ _ (k 2).symm).trans h.c2,(cO _ _ _ _ (k 3).symm).trans h.c3,(cO _ _ _ _ (k 4).symm).trans h.c4,(cO _ _ _ _ (k 5).symm).trans h.c5,(cO _ _ _ _ (k 6).symm).trans h.c6,(cO _ _ _ _ (k 7).symm).trans h.c7,fun i=>by rw [World.frozen?_setCell];exact h.f i⟩
theorem E8.new (w:World) (v0 v1 v2 v3 v4 v5 v6 v7:Value) (t:TypeId):E8 (w.alloc (.cells #[v0,v1,v2,v3,v4,v5,v6,v7] t)) w.heap.size v0 v1 v2 v3 v4 v5 v6 v7:=by constructor <;> simp [go_sem]
theorem E8.set0 (h:E8 w b v0 v1 v2 v3 v4 v5 v6 v7) (u:Value):E8 (w.setCell ⟨b,0,none⟩ u) b u v1 v2 v3 v4 v5 v6 v7:=
 ⟨World.cell?_setCell_same _ _ _ h.c0,(cO _ _ _ _ (by simp)).trans h.c1,(cO _ _ _ _ (by simp)).trans h.c2,(cO _ _ _ _ (by simp)).trans h.c3,(cO _ _ _ _ (by simp)).trans h.c4,(cO _ _ _ _ (by simp)).trans h.c5,(cO _ _ _ _ (by simp)).trans h.c6,(cO _ _ _ _ (by simp)).trans h.c7,fun j=>by rw [World.frozen?_setCell];exact h.f j⟩
theorem E8.set1 (h:E8 w b v0 v1 v2 v3 v4 v5 v6 v7) (u:Value):E8 (w.setCell ⟨b,1,none⟩ u) b v0 u v2 v3 v4 v5 v6 v7:=
 ⟨(cO _ _ _ _ (by simp)).trans h.c0,World.cell?_setCell_same _ _ _ h.c1,(cO _ _ _ _ (by simp)).trans h.c2,(cO _ _ _ _ (by simp)).trans h.c3,(cO _ _ _ _ (by simp)).trans h.c4,(cO _ _ _ _ (by simp)).trans h.c5,(cO _ _ _ _ (by simp)).trans h.c6,(cO _ _ _ _ (by simp)).trans h.c7,fun j=>by rw [World.frozen?_setCell];exact h.f j⟩
theorem E8.set2 (h:E8 w b v0 v1 v2 v3 v4 v5 v6 v7) (u:Value):E8 (w.setCell ⟨b,2,none⟩ u) b v0 v1 u v3 v4 v5 v6 v7:=
 ⟨(cO _ _ _ _ (by simp)).trans h.c0,(cO _ _ _ _ (by simp)).trans h.c1,World.cell?_setCell_same _ _ _ h.c2,(cO _ _ _ _ (by simp)).trans h.c3,(cO _ _ _ _ (by simp)).trans h.c4,(cO _ _ _ _ (by simp)).trans h.c5,(cO _ _ _ _ (by simp)).trans h.c6,(cO _ _ _ _ (by simp)).trans h.c7,fun j=>by rw [World.frozen?_setCell];exact h.f j⟩
theorem E8.set3 (h:E8 w b v0 v1 v2 v3 v4 v5 v6 v7) (u:Value):E8 (w.setCell ⟨b,3,none⟩ u) b v0 v1 v2 u v4 v5 v6 v7:=
 ⟨(cO _ _ _ _ (by simp)).trans h.c0,(cO _ _ _ _ (by simp)).trans h.c1,(cO _ _ _ _ (by simp)).trans h.c2,World.cell?_setCell_same _ _ _ h.c3,(cO _ _ _ _ (by simp)).trans h.c4,(cO _ _ _ _ (by simp)).trans h.c5,(cO _ _ _ _ (by simp)).trans h.c6,(cO _ _ _ _ (by simp)).trans h.c7,fun j=>by rw [World.frozen?_setCell];exact h.f j⟩
theorem E8.set4 (h:E8 w b v0 v1 v2 v3 v4 v5 v6 v7) (u:Value):E8 (w.setCell ⟨b,4,none⟩ u) b v0 v1 v2 v3 u v5 v6 v7:=
 ⟨(cO _ _ _ _ (by simp)).trans h.c0,(cO _ _ _ _ (by simp)).trans h.c1,(cO _ _ _ _ (by simp)).trans h.c2,(cO _ _ _ _ (by simp)).trans h.c3,World.cell?_setCell_same _ _ _ h.c4,(cO _ _ _ _ (by simp)).trans h.c5,(cO _ _ _ _ (by simp)).trans h.c6,(cO _ _ _ _ (by simp)).trans h.c7,fun j=>by rw [World.frozen?_setCell];exact h.f j⟩
theorem E8.set5 (h:E8 w b v0 v1 v2 v3 v4 v5 v6 v7) (u:Value):E8 (w.setCell ⟨b,5,none⟩ u) b v0 v1 v2 v3 v4 u v6 v7:=
 ⟨(cO _ _ _ _ (by simp)).trans h.c0,(cO _ _ _ _ (by simp)).trans h.c1,(cO _ _ _ _ (by simp)).trans h.c2,(cO _ _ _ _ (by simp)).trans h.c3,(cO _ _ _ _ (by simp)).trans h.c4,World.cell?_setCell_same _ _ _ h.c5,(cO _ _ _ _ (by simp)).trans h.c6,(cO _ _ _ _ (by simp)).trans h.c7,fun j=>by rw [World.frozen?_setCell];exact h.f j⟩
theorem E8.set6 (h:E8 w b v0 v1 v2 v3 v4 v5 v6 v7) (u:Value):E8 (w.setCell ⟨b,6,none⟩ u) b v0 v1 v2 v3 v4 v5 u v7:=
 ⟨(cO _ _ _ _ (by simp)).trans h.c0,(cO _ _ _ _ (by simp)).trans h.c1,(cO _ _ _ _ (by simp)).trans h.c2,(cO _ _ _ _ (by simp)).trans h.c3,(cO _ _ _ _ (by simp)).trans h.c4,(cO _ _ _ _ (by simp)).trans h.c5,World.cell?_setCell_same _ _ _ h.c6,(cO _ _ _ _ (by simp)).trans h.c7,fun j=>by rw [World.frozen?_setCell];exact h.f j⟩
theorem E8.set7 (h:E8 w b v0 v1 v2 v3 v4 v5 v6 v7) (u:Value):E8 (w.setCell ⟨b,7,none⟩ u) b v0 v1 v2 v3 v4 v5 v6 u:=
 ⟨(cO _ _ _ _ (by simp)).trans h.c0,(cO _ _ _ _ (by simp)).trans h.c1,(cO _ _ _ _ (by simp)).trans h.c2,(cO _ _ _ _ (by simp)).trans h.c3,(cO _ _ _ _ (by simp)).trans h.c4,(cO _ _ _ _ (by simp)).trans h.c5,(cO _ _ _ _ (by simp)).trans h.c6,World.cell?_setCell_same _ _ _ h.c7,fun j=>by rw [World.frozen?_setCell];exact h.f j⟩
theorem E8.all (h:E8 w b v0 v1 v2 v3 v4 v5 v6 v7) (u0 u1 u2 u3 u4 u5 u6 u7:Value):E8 ((((((((w.setCell ⟨b,0,none⟩ u0).setCell ⟨b,1,none⟩ u1).setCell ⟨b,2,none⟩ u2).setCell ⟨b,3,none⟩ u3).setCell ⟨b,4,none⟩ u4).setCell ⟨b,5,none⟩ u5).setCell ⟨b,6,none⟩ u6).setCell ⟨b,7,none⟩ u7) b u0 u1 u2 u3 u4 u5 u6 u7:=(((((((h.set0 u0).set1 u1).set2 u2).set3 u3).set4 u4).set5 u5).set6 u6).set7 u7
theorem E8.over (h:E8 w b v0 v1 v2 v3 v4 v5 v6 v7) {g:Nat} (hg:g ≠ b) (u0 u1 u2 u3 u4 u5 u6 u7:Value):E8 ((((((((w.setCell ⟨g,0,none⟩ u0).setCell ⟨g,1,none⟩ u1).setCell ⟨g,2,none⟩ u2).setCell ⟨g,3,none⟩ u3).setCell ⟨g,4,none⟩ u4).setCell ⟨g,5,none⟩ u5).setCell ⟨g,6,none⟩ u6).setCell ⟨g,7,none⟩ u7) b v0 v1 v2 v3 v4 v5 v6 v7:=((((((((h.far (p:=⟨g,0,none⟩) hg u0).far (p:=⟨g,1,none⟩) hg u1).far (p:=⟨g,2,none⟩) hg u2).far (p:=⟨g,3,none⟩) hg u3).far (p:=⟨g,4,none⟩) hg u4).far (p:=⟨g,5,none⟩) hg u5).far (p:=⟨g,6,none⟩) hg u6).far (p:=⟨g,7,none⟩) hg u7)
theorem below8 {B g:Nat} {a:World} (h:Below B a w) (hg:B ≤ g) (u0 u1 u2 u3 u4 u5 u6 u7:Value):Below B a ((((((((w.setCell ⟨g,0,none⟩ u0).setCell ⟨g,1,none⟩ u1).setCell ⟨g,2,none⟩ u2).setCell ⟨g,3,none⟩ u3).setCell ⟨g,4,none⟩ u4).setCell ⟨g,5,none⟩ u5).setCell ⟨g,6,none⟩ u6).setCell ⟨g,7,none⟩ u7):=((((((((h.setCell (p:=⟨g,0,none⟩) hg u0).setCell (p:=⟨g,1,none⟩) hg u1).setCell (p:=⟨g,2,none⟩) hg u2).setCell (p:=⟨g,3,none⟩) hg u3).setCell (p:=⟨g,4,none⟩) hg u4).setCell (p:=⟨g,5,none⟩) hg u5).setCell (p:=⟨g,6,none⟩) hg u6).setCell (p:=⟨g,7,none⟩) hg u7)
theorem size8 (w:World) (g:Nat) (u0 u1 u2 u3 u4 u5 u6 u7:Value):((((((((w.setCell ⟨g,0,none⟩ u0).setCell ⟨g,1,none⟩ u1).setCell ⟨g,2,none⟩ u2).setCell ⟨g,3,none⟩ u3).setCell ⟨g,4,none⟩ u4).setCell ⟨g,5,none⟩ u5).setCell ⟨g,6,none⟩ u6).setCell ⟨g,7,none⟩ u7).heap.size=w.heap.size:=by simp only [zS]
theorem Own.over8 {A:Option Addr} {ws:List Nat} {B g:Nat} (h:Own w B A ws) (hg:g < B) (u0 u1 u2 u3 u4 u5 u6 u7:Value):Own ((((((((w.setCell ⟨g,0,none⟩ u0).setCell ⟨g,1,none⟩ u1).setCell ⟨g,2,none⟩ u2).setCell ⟨g,3,none⟩ u3).setCell ⟨g,4,none⟩ u4).setCell ⟨g,5,none⟩ u5).setCell ⟨g,6,none⟩ u6).setCell ⟨g,7,none⟩ u7) B A ws:=((((((((h.far (p:=⟨g,0,none⟩) (.inl hg) u0).far (p:=⟨g,1,none⟩) (.inl hg) u1).far (p:=⟨g,2,none⟩) (.inl hg) u2).far (p:=⟨g,3,none⟩) (.inl hg) u3).far (p:=⟨g,4,none⟩) (.inl hg) u4).far (p:=⟨g,5,none⟩) (.inl hg) u5).far (p:=⟨g,6,none⟩) (.inl hg) u6).far (p:=⟨g,7,none⟩) (.inl hg) u7)
theorem OwnsH.over8 {v:Hv} {h:Hp} {B g:Nat} (m:OwnsH w B v h) (hg:g < B) (u0 u1 u2 u3 u4 u5 u6 u7:Value):OwnsH ((((((((w.setCell ⟨g,0,none⟩ u0).setCell ⟨g,1,none⟩ u1).setCell ⟨g,2,none⟩ u2).setCell ⟨g,3,none⟩ u3).setCell ⟨g,4,none⟩ u4).setCell ⟨g,5,none⟩ u5).setCell ⟨g,6,none⟩ u6).setCell ⟨g,7,none⟩ u7) B v h:=((((((((m.far (p:=⟨g,0,none⟩) hg u0).far (p:=⟨g,1,none⟩) hg u1).far (p:=⟨g,2,none⟩) hg u2).far (p:=⟨g,3,none⟩) hg u3).far (p:=⟨g,4,none⟩) hg u4).far (p:=⟨g,5,none⟩) hg u5).far (p:=⟨g,6,none⟩) hg u6).far (p:=⟨g,7,none⟩) hg u7)
theorem E8.grown {row:Option Nat} (h:E8 w b v0 v1 v2 v3 v4 v5 v6 v7) (hg:w.grownBy w' row) (hne:some b ≠ row):E8 w' b v0 v1 v2 v3 v4 v5 v6 v7:=by
 have hb:=hg.block b h.lt hne
 exact ⟨(World.cell?_of_block (a:=⟨b,0,none⟩) hb).trans h.c0,(World.cell?_of_block (a:=⟨b,1,none⟩) hb).trans h.c1,(World.cell?_of_block (a:=⟨b,2,none⟩) hb).trans h.c2,(World.cell?_of_block (a:=⟨b,3,none⟩) hb).trans h.c3,(World.cell?_of_block (a:=⟨b,4,none⟩) hb).trans h.c4,(World.cell?_of_block (a:=⟨b,5,none⟩) hb).trans h.c5,(World.cell?_of_block (a:=⟨b,6,none⟩) hb).trans h.c6,(World.cell?_of_block (a:=⟨b,7,none⟩) hb).trans h.c7,fun i=>(World.frozen?_of_block (a:=⟨b,i,none⟩) hb).trans (h.f i)⟩
end
theorem grF_refl (w:World) (row:Option Nat):w.grownBy w row:=⟨rfl,rfl,rfl,Nat.le_refl _,fun q hq hne=>rfl⟩
theorem grF_trans {w w1 w2:World} {row:Option Nat} (h:w.grownBy w1 row) (k:w1.grownBy w2 row):w.grownBy w2 row:=
 ⟨k.os.trans h.os,k.tape.trans h.tape,k.output.trans h.output,Nat.le_trans h.size k.size,fun q hq hne=>(k.block q (Nat.lt_of_lt_of_le hq h.size) hne).trans (h.block q hq hne)⟩
theorem grF_later {w w1 w2:World} {row:Option Nat} (h:w.grownBy w1 row) (k:Below w1.heap.size w1 w2):w.grownBy w2 row:=
 ⟨k.os.trans h.os,k.tape.trans h.tape,k.output.trans h.output,Nat.le_trans h.size k.size,fun q hq hne=>(k.block q (Nat.lt_of_lt_of_le hq h.size)).trans (h.block q hq hne)⟩
theorem grF_set {w w1:World} {g:Nat} (h:w.grownBy w1 (some g)) (o:Nat) (u:Value):w.grownBy (w1.setCell ⟨g,o,none⟩ u) (some g):=grF_trans h (grown_setg _ _ _ _)
def scV (v:Hv) (O:Option Addr) (co:Nat) (s:Sc):Value:=.agg #[.slice v.A s.h.ws.length v.ca,.int .i64 s.h.n,.slice v.U s.h.us.length v.cu,.slice v.V s.h.l.length v.cv,.int .i64 s.n,.slice O s.os.length co,.int .u64 (s.fa:Nat),.int .u64 (s.go:Nat)]
structure SM (w:World) (v:Hv) (O:Option Addr) (s:Sc):Prop where
 h:HM w w.heap.size v s.h
 o:Row w w.heap.size O s.os
theorem SM.later {w w':World} {v:Hv} {O:Option Addr} {s:Sc} (m:SM w v O s) (hb:Below w.heap.size w w'):SM w' v O s:=⟨m.h.later hb,m.o.later hb⟩
structure OwnsSc (w:World) (B:Nat) (v:Hv) (O:Option Addr) (s:Sc):Prop where
 h:OwnsH w B v s.h
 o:Own w B O s.os
theorem OwnsSc.sm {w:World} {B:Nat} {v:Hv} {O:Option Addr} {s:Sc} (m:OwnsSc w B v O s):SM w v O s:=⟨m.h.hm,m.o.row⟩
theorem OwnsSc.later {w w':World} {B:Nat} {v:Hv} {O:Option Addr} {s:Sc} (m:OwnsSc w B v O s) (hb:Below w.heap.size w w'):OwnsSc w' B v O s:=⟨m.h.later hb,m.o.later hb⟩
theorem OwnsSc.mono {w:World} {B B':Nat} {v:Hv} {O:Option Addr} {s:Sc} (m:OwnsSc w B v O s) (h:B' ≤ B):OwnsSc w B' v O s:=⟨m.h.mono h,m.o.mono h⟩
theorem OwnsSc.over8 {w:World} {B g:Nat} {v:Hv} {O:Option Addr} {s:Sc} (m:OwnsSc w B v O s) (hg:g < B) (u0 u1 u2 u3 u4 u5 u6 u7:Value):OwnsSc ((((((((w.setCell ⟨g,0,none⟩ u0).setCell ⟨g,1,none⟩ u1).setCell ⟨g,2,none⟩ u2).setCell ⟨g,3,none⟩ u3).setCell ⟨g,4,none⟩ u4).setCell ⟨g,5,none⟩ u5).setCell ⟨g,6,none⟩ u6).setCell ⟨g,7,none⟩ u7) B v O s:=⟨m.h.over8 hg u0 u1 u2 u3 u4 u5 u6 u7,m.o.over8 hg u0 u1 u2 u3 u4 u5 u6 u7⟩
def sc0:Sc:=⟨hp0,0,[],0,0⟩
theorem OwnsSc.zero (w:World) (B:Nat):OwnsSc w B hv0 none sc0:=⟨OwnsH.zero w B,Own.nil w B⟩
structure Shp where
 n:Int
 m:Nat
instance:Inhabited Shp:=⟨⟨0,0⟩⟩
def nthF (l:List Shp) (i:Nat):Shp:=l.getD i default
def ShpRow (w:World) (B:Nat) (A:Option Addr) (l:List Shp):Prop:=0 < l.length → ∃ b off,A=some ⟨b,off,none⟩∧b < B∧∀ i,i < l.length → (nthF l i).m < W64∧w.cell? ⟨b,off + i * 2,none⟩=some (.int .i64 (nthF l i).n)∧w.cell? ⟨b,off + i * 2 + 1,none⟩=some (.int .u64 ((nthF l i).m:Nat))
theorem ShpRow.later {w w':World} {A:Option Addr} {l:List Shp} (h:ShpRow w w.heap.size A l) (hb:Below w.heap.size w w'):ShpRow w' w'.heap.size A l:=fun h0=>by
 obtain ⟨b,off,e,hlt,hc⟩:=h h0
 refine ⟨b,off,e,Nat.lt_of_lt_of_le hlt hb.size,fun i hi=>?_⟩
 obtain ⟨h1,h2,h3⟩:=hc i hi
 exact ⟨h1,((bcell hb).1 _ _ hlt).trans h2,((bcell hb).1 _ _ hlt).trans h3⟩
theorem OwnsN.far2 {w:World} {B n cap:Nat} {A:Option Addr} {t:List Nat} (h:OwnsN w B A n cap t) {p:Addr} (hp:p.block < B) (u:Value):OwnsN (w.setCell p u) B A n cap t:=
 ⟨h.len,h.words,h.row_.kept (grown_setp w p u) (.inr (by
  intro e
  have:=(h.row_.lt p.block (by first | exact e | exact e.symm)).1
  omega))⟩
theorem OwnsN.grownLt {w w':World} {B n cap g:Nat} {A:Option Addr} {t:List Nat} (h:OwnsN w B A n cap t) (hg:w.grownBy w' (some g)) (hB:g < B):OwnsN w' B A n cap t:=
 ⟨h.len,h.words,h.row_.kept hg (.inr (by
  intro e
  have:=(h.row_.lt g (by first | exact e | exact e.symm)).1
  omega))⟩
set_option maxHeartbeats 4000000 in
theorem zclean_any {w:World} {B b:Nat} {v:Hv} {h:Hp} (m:WB w B b v h) (hkk:OkH h) {i:Nat} (hi:i < h.l.length) (hs:(nth h.l i).s=false) :
  Calls Tryz.prog 117 #[.pointer (some ⟨b,0,none⟩),.int .i64 (i:Nat)] w fun e w'=>∃ L c,e=.returned (.slice L (usD (nth h.l i)).length c)∧OwnsN w' w.heap.size L (usD (nth h.l i)).length c (usD (nth h.l i))∧(∃ v',WB w' B b v' (clnH h i))∧Below B w w':=by
 have hok:=hkk.framed.spans
 have hw:=hkk.framed.words
 have hin:∀ a ∈ unmA (nth h.l i) (slN (nth h.l i)),a + swd (nth h.l i) ≤ h.ws.length:=fun a ha=>by
  obtain ⟨j,j1,_,_,rfl⟩:=unmA_mem ha
  exact (hkk.slotW hi j1).1
 have hk1:=cl1H_ok hkk hi hs
 have hi1:i < (cl1H h i).l.length:=by rw [(cl1H_like hkk hi).l];exact hi
 have HDR:=Lib.hid fun (w:World) (B b:Nat) (v:Hv) (mm:WB w B b v (cl1H h i)) (A M:Option Addr) (ca cm:Nat)=>zdrop_any mm hk1.framed.spans hk1.framed.pages hi1 (hk1.owned.in_ i hi1).2 (fun j j1 j2=>(hk1.owned.used j (by have:=(hk1.owned.in_ i hi1).2;omega)).2 (.inr ⟨i,hi1,j1,j2⟩)) A M ca cm
 have en:nth (cl1H h i).l i=clnD (nth h.l i):=by rw [cl1H_nth hi,if_pos rfl]
 rw [en] at HDR
 have HCN:Hid ((countTo (clnD (nth h.l i)).aw (nth h.l i).an.toNat=0 → clnH h i=droH (cl1H h i) i)∧(¬ countTo (clnD (nth h.l i)).aw (nth h.l i).an.toNat=0 → clnH h i=cl1H h i)):=Lib.hid ⟨fun e=>by unfold clnH;rw [if_pos e],fun e=>by unfold clnH;rw [if_neg e]⟩
 have HBO:=Lib.hid fun (w:World) (A M:Option Addr) (ca cm:Nat) hA hM=>both_ok (w:=w) (n:=(nth h.l i).an) (A:=A) (C:=M) (ws:=(nth h.l i).aw) (us:=(nth h.l i).mw) ca cm hA hM (hok.at_ hi).a (by have:=(hok.at_ hi).m;rw [(hok.at_ hi).mn,← (hok.at_ hi).an] at this;exact this)
 have HCT:=Lib.hid fun (w:World) (A:Option Addr) (ca:Nat) hr=>count_ok (w:=w) (n:=(nth h.l i).an) (A:=A) (ws:=(clnD (nth h.l i)).aw) ca hr (hok.at_ hi).cln.a
 have HMN:Hid ((nth h.l i).mn=(nth h.l i).an):=Lib.hid (by rw [(hok.at_ hi).mn,(hok.at_ hi).an])
 have HL0:Hid (0 < (clnD (nth h.l i)).aw.length):=Lib.hid (by have:=(hok.at_ hi).cln.aw;omega)
 have HCE:Hid (cl1H h i=⟨clnW h.ws (swd (nth h.l i)) (usD (nth h.l i)) (usD (nth h.l i)).length,h.n,h.us,h.l.set i (clnD (nth h.l i))⟩):=Lib.hid rfl
 unfold Fresh at HBO
 unfold clnD at HDR HCN HCT HL0 HCE
 unfold usD at HCE ⊢
 simp only at HDR HCN HCT HL0 HCE
 clear hk1 hi1 en hkk hs
 obtain ⟨vs,hvs,hS,hAS⟩:=m.s
 obtain ⟨g,hV,hgB,hgl⟩:=m.block hS hi
 have hlen:=hS.len
 have hle:=m.le
 have hbl:=m.lt
 have ok:=hok.at_ hi
 have hil:i < vs.length:=by omega
 have hd:vs[i].d=nth h.l i:=by rw [← hvs];exact (nth_sds vs i hil).symm
 rw [hV] at hS
 have c8:=sp8_of_owns hS.row_ hlen i hi
 rw [hd] at c8
 have hwo:=hS.words _ (List.getElem_mem hil)
 rw [hd] at hwo
 obtain ⟨x,hxx⟩:∃ x,Hid (vs[i]=x):=⟨vs[i],Lib.hid rfl⟩
 rw [hxx.out] at c8 hwo
 have hbg:b ≠ g:=fun e=>hAS.1 (by rw [hV,e])
 rw [Nat.zero_add] at c8
 have HUN:=Lib.hid fun (w:World) (A M:Option Addr) (ca cm:Nat) hA hM=>zunmarked_any (w:=w) (d:=nth h.l i) (A:=A) (M:=M) ca cm ok hA hM
 have HSW:=Lib.hid fun (w:World) (A M:Option Addr) (ca cm:Nat)=>zslotw_any (w:=w) (nth h.l i) A ca M cm (by have:=ok.sized.slots;omega) (by have:=ok.sized.slots;omega)
 obtain ⟨us,hus⟩:∃ us,Hid (unmA (nth h.l i) (slN (nth h.l i))=us):=⟨_,Lib.hid rfl⟩
 rw [hus.out] at HUN hin HCE ⊢
 have hul:Hid (us.length ≤ 8):=Lib.hid (by
  have h1:=unmA_len (nth h.l i) (slN (nth h.l i))
  have h2:=ok.slK
  rw [hus.out] at h1
  omega)
 obtain ⟨z,hz⟩:∃ z,Hid (swd (nth h.l i)=z):=⟨_,Lib.hid rfl⟩
 rw [hz.out] at HSW hin HCE
 have hz64:Hid (z ≤ 64):=Lib.hid (by have:=ok.swd_eq;rw [← hz.out];omega)
 have HC:=Lib.hid fun (w:World) (A:Option Addr) (ca:Nat) (ws:List Nat) (hl:ws.length=h.ws.length) (k:Nat) (hk:k < us.length) (hr:Row w w.heap.size A ws)=>by
  have hmem:us.getD k 0 ∈ us:=by rw [List.getD_eq_getElem?_getD,List.getElem?_eq_getElem hk];exact List.getElem_mem hk
  have h1:=hin _ hmem
  have C:=clear_any (w:=w) (A:=A) (ws:=ws) ca (us.getD k 0) z hr (by omega) (by unfold W64;omega) (by have:=hz64.out;unfold W64;omega)
  have e1:resA ws (us.getD k 0 + z ≤ ws.length) (overTo ws (us.getD k 0) (fun _=>0) z)=overTo ws (us.getD k 0) (fun _=>0) z∧errA ws (us.getD k 0 + z ≤ ws.length)=0:=resA_in (by omega) (by omega)
  rw [e1.1,e1.2] at C
  exact C
 unfold FreshA at HC
 have HM:=Lib.hid m
 obtain ⟨b0,b1,b2,b3,f0,f1,f2,f3⟩:=id m.box
 rw [hV] at b3
 obtain ⟨d,hdd⟩:∃ d,Hid (nth h.l i=d):=⟨_,Lib.hid rfl⟩
 rw [hdd.out] at HUN HSW c8 hwo HDR HCN HBO HCT HMN HL0 HCE
 obtain ⟨df,dp,dz,dan,daw,dmn,dmw,ds⟩:=d
 obtain ⟨xd,xA,xca,xM,xcm⟩:=x
 unfold spv at HUN HSW
 simp only at HUN HSW c8 hwo HDR HCN HBO HCT HMN HL0 HCE
 have hA:=hwo.1.row
 have hM:=hwo.2.row
 have HC8:=Lib.hid c8
 obtain ⟨c0,c1,c2,c3,c4,c5,c6,c7⟩:=c8
 clear m hS hok ok hwo hd hlen hin
 have i0:(0:Int) ≤ (i:Int):=by omega
 have i1:(i:Int) < (h.l.length:Int):=by omega
 go_enter Tryz.func117,Tryz.ntmps117
 go_wp2_with fail
 go_at_call 190
 refine (HUN.out _ _ _ _ _ (hA.later bX) (hM.later bX)).mono ?_
 rintro e w1 ⟨L,c,rfl,hO1,hb_w1⟩
 have hb1:Below w.heap.size w w1:=bX
 have hs1:=hb1.size
 have hm1:=HM.out.later hb1
 have h81:=HC8.out.later hb1
 have hz63:=hz64.out
 have hul8:=hul.out
 have HVS:=Lib.hid hvs
 have HV:=Lib.hid hV
 clear c0 c1 c2 c3 c4 c5 c6 c7 b0 b1 b2 b3 f0 f1 f2 f3 hb_w1 hus hz hvs hV
 go_wp2_with fail
 have e0:clnW h.ws z us 0=h.ws:=rfl
 go_loopw [24] (fun ii wr=>∃ (k:Nat) (A':Option Addr) (ca':Nat),ii=.int .i64 (k:Nat)∧k ≤ us.length∧WB wr B b ⟨A',ca',v.U,v.cu,v.V,v.cv⟩ ⟨clnW h.ws z us k,h.n,h.us,h.l⟩∧Sp8 wr g (i * 8) ⟨df,dp,dz,dan,daw,dmn,dmw,ds⟩ xA xca xM xcm∧OwnsN wr w.heap.size L us.length c us∧w.heap.size ≤ wr.heap.size∧Below B w wr) (fun ii _=>us.length - (intOf ii).toNat)
 case atStart=>exact ⟨0,v.A,v.ca,rfl,Nat.zero_le _,hm1,h81,hO1,hs1,hb1.mono (by omega)⟩
 case round=>
  obtain ⟨k,A',ca',rfl,hk,hmr,h8r,hOr,hsr,hbr⟩:=hrel
  by_cases hlt:k < us.length
  ·obtain ⟨gL,hLe,hL1,hL2,hL3⟩:=hOr.own.at_ (show 0 < us.length by omega)
   obtain ⟨l0,lf⟩:=hL3 k hlt
   subst hLe
   obtain ⟨b0,b1,b2,b3,f0,f1,f2,f3⟩:=id hmr.box
   obtain ⟨c0,c1,c2,c3,c4,c5,c6,c7⟩:=id h8r
   have hAr:Row wr wr.heap.size A' (clnW h.ws z us k):=hmr.hm.a
   have hlW:=clnW_len h.ws z us k
   have HCk:=Lib.hid fun (w:World) (A:Option Addr) (ca:Nat) hr=>HC.out w A ca (clnW h.ws z us k) hlW k hlt hr
   have HW1:Hid (clnW h.ws z us (k + 1)=overTo (clnW h.ws z us k) (us.getD k 0) (fun _=>0) z):=Lib.hid rfl
   obtain ⟨Wk,hWk⟩:∃ W,Hid (clnW h.ws z us k=W):=⟨_,Lib.hid rfl⟩
   rw [hWk.out] at HCk HW1 b0 hmr hAr hlW
   have hgd:us.getD k 0=us[k]:=by rw [List.getD_eq_getElem?_getD,List.getElem?_eq_getElem hlt];rfl
   obtain ⟨ak,hak⟩:∃ a,Hid (us[k]=a):=⟨_,Lib.hid rfl⟩
   rw [hgd,hak.out] at HCk HW1 l0
   clear hgd
   have hbl2:=hmr.lt
   have hg2:=h8r.lt
   have HMR:=Lib.hid hmr
   have H8R:=Lib.hid h8r
   have HOR:=Lib.hid hOr
   have HBR:=Lib.hid hbr
   clear hL3 hmr h8r hOr hbr hlW b1 b2 b3 f1 f2 f3 hWk hak e0 hAS hul8
   have HK1:Hid (k + 1 ≤ us.length):=Lib.hid (by omega)
   have j0:(0:Int) ≤ (k:Int):=by omega
   have j1:(k:Int) < (us.length:Int):=by omega
   go_wp2_with fail
   refine wp_region_held_drew (S:=(fun X:World=>X.cell? ⟨g,i * 8,none⟩=some (.int .i64 df)∧X.cell? ⟨g,i * 8 + 1,none⟩=some (.int .i64 dp)∧X.cell? ⟨g,i * 8 + 2,none⟩=some (.int .i64 dz)∧X.cell? ⟨g,i * 8 + 3,none⟩=some (.int .i64 dan)∧X.cell? ⟨g,i * 8 + 4,none⟩=some (.slice xA daw.length xca)∧X.cell? ⟨g,i * 8 + 5,none⟩=some (.int .i64 dmn)∧X.cell? ⟨g,i * 8 + 6,none⟩=some (.slice xM dmw.length xcm)∧X.cell? ⟨g,i * 8 + 7,none⟩=some (.bool ds))) (by kernel_rfl) ?_ (fun hHeld=>?_)
   ·(try dsimp only);refine ⟨?_,?_,?_,?_,?_,?_,?_,?_⟩ <;> first | assumption | (simp [go_sem];done) | exact (World.cell?_alloc_lt _ _ ⟨_,_,_⟩ lX).trans (by assumption) | exact (cO _ ⟨_,_,_⟩ ⟨_,_,_⟩ _ (fun e2=>hbg (by injection e2))).trans (by assumption)
   refine tY 0 ?_
   try simp only [Act.put,qZ]
   refine tY 1 ?_
   try simp only [Act.put,qZ]
   refine tY 2 ?_
   try simp only [Act.put,qZ]
   refine tY 3 ?_
   try simp only [Act.put,qZ]
   refine tY 4 ?_
   try simp only [Act.put,qZ]
   refine tY 6 ?_
   try simp only [Act.put,qZ]
   refine tY 7 ?_
   try simp only [Act.put,qZ]
   refine tY 8 ?_
   try simp only [Act.put,qZ]
   refine tY 9 ?_
   try simp only [Act.put,qZ]
   refine wpAnyH_ready (rs:=[5,10]) (by kernel_rfl) (by simp) ?_
   refine AllReadyH.cons rfl (fun K hK=>?_) (AllReadyH.cons rfl (fun K hK=>?_) AllReadyH.nil)
   ·try simp only [qZ]
    go_simp
    try go_wp2_with fail
    refine hK.out _ _ ?_ (fun hHeld=>?_)
    ·(try dsimp only);refine ⟨?_,?_,?_,?_,?_,?_,?_,?_⟩ <;> first | assumption | (simp [go_sem];done) | exact (World.cell?_alloc_lt _ _ ⟨_,_,_⟩ lX).trans (by assumption) | exact (cO _ ⟨_,_,_⟩ ⟨_,_,_⟩ _ (fun e2=>hbg (by injection e2))).trans (by assumption)
    clear hK K
    try simp only [Act.put,qZ]
    refine tR 10 fun K hK=>?_
    try simp only [qZ]
    go_simp
    go_at_call 192
    refine (HSW.out _ _ _ _ _).mono ?_
    rintro e w2 ⟨rfl,hb_w2⟩
    have hs_w2:wr.heap.size ≤ w2.heap.size:=hb_w2.size
    have p2:w2.cell? ⟨b,0,none⟩=some (.slice A' Wk.length ca'):=(hb_w2.cell lX).trans kY
    have q2:w2.frozen? ⟨b,0,none⟩=false:=((bcell hb_w2).2 _ _ lX).trans kY
    have mw20:w2.cell? ⟨g,i * 8,none⟩=some (.int .i64 df):=cX hb_w2
    have mw21:w2.cell? ⟨g,i * 8 + 1,none⟩=some (.int .i64 dp):=cX hb_w2
    have mw22:w2.cell? ⟨g,i * 8 + 2,none⟩=some (.int .i64 dz):=cX hb_w2
    have mw23:w2.cell? ⟨g,i * 8 + 3,none⟩=some (.int .i64 dan):=cX hb_w2
    have mw24:w2.cell? ⟨g,i * 8 + 4,none⟩=some (.slice xA daw.length xca):=cX hb_w2
    have mw25:w2.cell? ⟨g,i * 8 + 5,none⟩=some (.int .i64 dmn):=cX hb_w2
    have mw26:w2.cell? ⟨g,i * 8 + 6,none⟩=some (.slice xM dmw.length xcm):=cX hb_w2
    have mw27:w2.cell? ⟨g,i * 8 + 7,none⟩=some (.bool ds):=cX hb_w2
    try go_wp2_with fail
    refine hK.out _ _ ?_ (fun hHeld=>?_)
    ·(try dsimp only);refine ⟨?_,?_,?_,?_,?_,?_,?_,?_⟩ <;> first | assumption | (simp [go_sem];done) | exact (World.cell?_alloc_lt _ _ ⟨_,_,_⟩ lX).trans (by assumption) | exact (cO _ ⟨_,_,_⟩ ⟨_,_,_⟩ _ (fun e2=>hbg (by injection e2))).trans (by assumption)
    clear hK K
    try simp only [Act.put,qZ]
    refine tR 11 fun K hK=>?_
    try simp only [qZ]
    go_simp
    go_at_call 191
    refine (HCk.out _ _ _ (hAr.later bX)).mono ?_
    rintro e w3 ⟨A3,c3',rfl,⟨o3,hc3⟩,hb_w3⟩
    have hs_w3:w2.heap.size ≤ w3.heap.size:=hb_w3.size
    have p3:w3.cell? ⟨b,0,none⟩=some (.slice A' Wk.length ca'):=(hb_w3.cell lX).trans kY
    have q3:w3.frozen? ⟨b,0,none⟩=false:=((bcell hb_w3).2 _ _ lX).trans kY
    have mw30:w3.cell? ⟨g,i * 8,none⟩=some (.int .i64 df):=cX hb_w3
    have mw31:w3.cell? ⟨g,i * 8 + 1,none⟩=some (.int .i64 dp):=cX hb_w3
    have mw32:w3.cell? ⟨g,i * 8 + 2,none⟩=some (.int .i64 dz):=cX hb_w3
    have mw33:w3.cell? ⟨g,i * 8 + 3,none⟩=some (.int .i64 dan):=cX hb_w3
    have mw34:w3.cell? ⟨g,i * 8 + 4,none⟩=some (.slice xA daw.length xca):=cX hb_w3
    have mw35:w3.cell? ⟨g,i * 8 + 5,none⟩=some (.int .i64 dmn):=cX hb_w3
    have mw36:w3.cell? ⟨g,i * 8 + 6,none⟩=some (.slice xM dmw.length xcm):=cX hb_w3
    have mw37:w3.cell? ⟨g,i * 8 + 7,none⟩=some (.bool ds):=cX hb_w3
    try go_wp2_with fail
    refine hK.out _ _ ?_ (fun hHeld=>?_)
    ·(try dsimp only);refine ⟨?_,?_,?_,?_,?_,?_,?_,?_⟩ <;> first | assumption | (simp [go_sem];done) | exact (World.cell?_alloc_lt _ _ ⟨_,_,_⟩ lX).trans (by assumption) | exact (cO _ ⟨_,_,_⟩ ⟨_,_,_⟩ _ (fun e2=>hbg (by injection e2))).trans (by assumption)
    clear hK K
    try simp only [Act.put,qZ]
    refine tY 12 ?_
    try simp only [Act.put,qZ]
    refine tY 13 ?_
    try simp only [Act.put,qZ]
    refine tY 14 ?_
    try simp only [Act.put,qZ]
    refine tY 15 ?_
    try simp only [Act.put,qZ]
    refine tY 16 ?_
    try simp only [Act.put,qZ]
    refine tY 17 ?_
    try simp only [Act.put,qZ]
    refine tR 18 fun K hK=>?_
    try simp only [qZ]
    go_simp
    try go_wp2_with fail
    refine hK.out _ _ ?_ (fun hHeld=>?_)
    ·(try dsimp only);refine ⟨?_,?_,?_,?_,?_,?_,?_,?_⟩ <;> first | assumption | (simp [go_sem];done) | exact (World.cell?_alloc_lt _ _ ⟨_,_,_⟩ lX).trans (by assumption) | exact (cO _ ⟨_,_,_⟩ ⟨_,_,_⟩ _ (fun e2=>hbg (by injection e2))).trans (by assumption)
    clear hK K
    try simp only [Act.put,qZ]
    refine wpAnyH_done (by kernel_rfl) ?_ _
    have hbw3:Below wr.heap.size wr w3:=bX
    have hm4:=(HMR.out.later hbw3).setA (ca:=c3') (o3.mono (B':=B) (by first | omega | (simp only [zN,zD,zA];omega))) (o3.apt (b:=b) (by first | omega | (simp only [zN,zD,zA];omega)))
    have h84:=(H8R.out.later hbw3).far (p:=⟨b,0,none⟩) hbg (.slice A3 (overTo Wk ak (fun _=>0) z).length c3')
    have hO4:=(HOR.out.later hbw3).far2 (p:=⟨b,0,none⟩) hbl (.slice A3 (overTo Wk ak (fun _=>0) z).length c3')
    have hb4:Below B w (w3.setCell ⟨b,0,none⟩ (.slice A3 (overTo Wk ak (fun _=>0) z).length c3')):=(HBR.out.trans (hbw3.mono (by omega))).setCell (p:=⟨b,0,none⟩) hle _
    have hs4:w.heap.size ≤ (w3.setCell ⟨b,0,none⟩ (.slice A3 (overTo Wk ak (fun _=>0) z).length c3')).heap.size:=by rw [World.size_setCell];omega
    rw [← HW1.out] at hm4 h84 hO4 hb4 hs4
    have R4:=Lib.hid (And.intro hm4 (And.intro h84 (And.intro hO4 (And.intro hs4 hb4))))
    clear hm4 h84 hO4 hs4 hb4 o3 hHeld
    rw [← HW1.out]
    have hk100:k ≤ 100:=(by have:=hul.out;omega)
    go_wp2
    go_roundw
    case rel=>exact ⟨k + 1,A3,c3',by go_num,HK1.out,R4.out⟩
    case measure=>(have hk1:=HK1.out;simp [intOf];omega)
   ·try simp only [qZ]
    go_simp
    go_at_call 192
    refine (HSW.out _ _ _ _ _).mono ?_
    rintro e w2 ⟨rfl,hb_w2⟩
    have hs_w2:wr.heap.size ≤ w2.heap.size:=hb_w2.size
    have p2:w2.cell? ⟨b,0,none⟩=some (.slice A' Wk.length ca'):=(hb_w2.cell lX).trans kY
    have q2:w2.frozen? ⟨b,0,none⟩=false:=((bcell hb_w2).2 _ _ lX).trans kY
    have mw20:w2.cell? ⟨g,i * 8,none⟩=some (.int .i64 df):=cX hb_w2
    have mw21:w2.cell? ⟨g,i * 8 + 1,none⟩=some (.int .i64 dp):=cX hb_w2
    have mw22:w2.cell? ⟨g,i * 8 + 2,none⟩=some (.int .i64 dz):=cX hb_w2
    have mw23:w2.cell? ⟨g,i * 8 + 3,none⟩=some (.int .i64 dan):=cX hb_w2
    have mw24:w2.cell? ⟨g,i * 8 + 4,none⟩=some (.slice xA daw.length xca):=cX hb_w2
    have mw25:w2.cell? ⟨g,i * 8 + 5,none⟩=some (.int .i64 dmn):=cX hb_w2
    have mw26:w2.cell? ⟨g,i * 8 + 6,none⟩=some (.slice xM dmw.length xcm):=cX hb_w2
    have mw27:w2.cell? ⟨g,i * 8 + 7,none⟩=some (.bool ds):=cX hb_w2
    try go_wp2_with fail
    refine hK.out _ _ ?_ (fun hHeld=>?_)
    ·(try dsimp only);refine ⟨?_,?_,?_,?_,?_,?_,?_,?_⟩ <;> first | assumption | (simp [go_sem];done) | exact (World.cell?_alloc_lt _ _ ⟨_,_,_⟩ lX).trans (by assumption) | exact (cO _ ⟨_,_,_⟩ ⟨_,_,_⟩ _ (fun e2=>hbg (by injection e2))).trans (by assumption)
    clear hK K
    try simp only [Act.put,qZ]
    refine tR 5 fun K hK=>?_
    try simp only [qZ]
    go_simp
    try go_wp2_with fail
    refine hK.out _ _ ?_ (fun hHeld=>?_)
    ·(try dsimp only);refine ⟨?_,?_,?_,?_,?_,?_,?_,?_⟩ <;> first | assumption | (simp [go_sem];done) | exact (World.cell?_alloc_lt _ _ ⟨_,_,_⟩ lX).trans (by assumption) | exact (cO _ ⟨_,_,_⟩ ⟨_,_,_⟩ _ (fun e2=>hbg (by injection e2))).trans (by assumption)
    clear hK K
    try simp only [Act.put,qZ]
    refine tR 11 fun K hK=>?_
    try simp only [qZ]
    go_simp
    go_at_call 191
    refine (HCk.out _ _ _ (hAr.later bX)).mono ?_
    rintro e w3 ⟨A3,c3',rfl,⟨o3,hc3⟩,hb_w3⟩
    have hs_w3:w2.heap.size ≤ w3.heap.size:=hb_w3.size
    have p3:w3.cell? ⟨b,0,none⟩=some (.slice A' Wk.length ca'):=(hb_w3.cell lX).trans kY
    have q3:w3.frozen? ⟨b,0,none⟩=false:=((bcell hb_w3).2 _ _ lX).trans kY
    have mw30:w3.cell? ⟨g,i * 8,none⟩=some (.int .i64 df):=cX hb_w3
    have mw31:w3.cell? ⟨g,i * 8 + 1,none⟩=some (.int .i64 dp):=cX hb_w3
    have mw32:w3.cell? ⟨g,i * 8 + 2,none⟩=some (.int .i64 dz):=cX hb_w3
    have mw33:w3.cell? ⟨g,i * 8 + 3,none⟩=some (.int .i64 dan):=cX hb_w3
    have mw34:w3.cell? ⟨g,i * 8 + 4,none⟩=some (.slice xA daw.length xca):=cX hb_w3
    have mw35:w3.cell? ⟨g,i * 8 + 5,none⟩=some (.int .i64 dmn):=cX hb_w3
    have mw36:w3.cell? ⟨g,i * 8 + 6,none⟩=some (.slice xM dmw.length xcm):=cX hb_w3
    have mw37:w3.cell? ⟨g,i * 8 + 7,none⟩=some (.bool ds):=cX hb_w3
    try go_wp2_with fail
    refine hK.out _ _ ?_ (fun hHeld=>?_)
    ·(try dsimp only);refine ⟨?_,?_,?_,?_,?_,?_,?_,?_⟩ <;> first | assumption | (simp [go_sem];done) | exact (World.cell?_alloc_lt _ _ ⟨_,_,_⟩ lX).trans (by assumption) | exact (cO _ ⟨_,_,_⟩ ⟨_,_,_⟩ _ (fun e2=>hbg (by injection e2))).trans (by assumption)
    clear hK K
    try simp only [Act.put,qZ]
    refine tY 12 ?_
    try simp only [Act.put,qZ]
    refine tY 13 ?_
    try simp only [Act.put,qZ]
    refine tY 14 ?_
    try simp only [Act.put,qZ]
    refine tY 15 ?_
    try simp only [Act.put,qZ]
    refine tY 16 ?_
    try simp only [Act.put,qZ]
    refine tY 17 ?_
    try simp only [Act.put,qZ]
    refine tR 18 fun K hK=>?_
    try simp only [qZ]
    go_simp
    try go_wp2_with fail
    refine hK.out _ _ ?_ (fun hHeld=>?_)
    ·(try dsimp only);refine ⟨?_,?_,?_,?_,?_,?_,?_,?_⟩ <;> first | assumption | (simp [go_sem];done) | exact (World.cell?_alloc_lt _ _ ⟨_,_,_⟩ lX).trans (by assumption) | exact (cO _ ⟨_,_,_⟩ ⟨_,_,_⟩ _ (fun e2=>hbg (by injection e2))).trans (by assumption)
    clear hK K
    try simp only [Act.put,qZ]
    refine wpAnyH_done (by kernel_rfl) ?_ _
    have hbw3:Below wr.heap.size wr w3:=bX
    have hm4:=(HMR.out.later hbw3).setA (ca:=c3') (o3.mono (B':=B) (by first | omega | (simp only [zN,zD,zA];omega))) (o3.apt (b:=b) (by first | omega | (simp only [zN,zD,zA];omega)))
    have h84:=(H8R.out.later hbw3).far (p:=⟨b,0,none⟩) hbg (.slice A3 (overTo Wk ak (fun _=>0) z).length c3')
    have hO4:=(HOR.out.later hbw3).far2 (p:=⟨b,0,none⟩) hbl (.slice A3 (overTo Wk ak (fun _=>0) z).length c3')
    have hb4:Below B w (w3.setCell ⟨b,0,none⟩ (.slice A3 (overTo Wk ak (fun _=>0) z).length c3')):=(HBR.out.trans (hbw3.mono (by omega))).setCell (p:=⟨b,0,none⟩) hle _
    have hs4:w.heap.size ≤ (w3.setCell ⟨b,0,none⟩ (.slice A3 (overTo Wk ak (fun _=>0) z).length c3')).heap.size:=by rw [World.size_setCell];omega
    rw [← HW1.out] at hm4 h84 hO4 hb4 hs4
    have R4:=Lib.hid (And.intro hm4 (And.intro h84 (And.intro hO4 (And.intro hs4 hb4))))
    clear hm4 h84 hO4 hs4 hb4 o3 hHeld
    rw [← HW1.out]
    have hk100:k ≤ 100:=(by have:=hul.out;omega)
    go_wp2
    go_roundw
    case rel=>exact ⟨k + 1,A3,c3',by go_num,HK1.out,R4.out⟩
    case measure=>(have hk1:=HK1.out;simp [intOf];omega)
  ·obtain rfl:k=us.length:=by omega
   clear h8r
   obtain ⟨g2,A2,ca2,M2,cm2,hV2,_,hgl2,hbg2,s8,oA,oM,fz,f00,hf00⟩:=hmr.span hi
   obtain rfl:g2=g:=by
    have:=hV2.symm.trans HV.out
    injection this with this
    injection this with this
   have hD:Hid (nth h.l i=⟨df,dp,dz,dan,daw,dmn,dmw,ds⟩):=hdd
   simp only at s8 oA oM
   rw [hD.out] at s8 oA oM
   obtain rfl:dmn=dan:=HMN.out
   obtain ⟨c0,c1,c2,c3,c4,c5,c6,c7⟩:=id s8
   simp only at oA oM c0 c1 c2 c3 c4 c5 c6 c7
   have hA2:=oA.row
   have hM2:=oM.row
   have q3:=fz (i * 8 + 3)
   have q4:=fz (i * 8 + 4)
   have q7:=fz (i * 8 + 7)
   have HW:=Lib.hid hmr
   have HO:=Lib.hid hOr
   have HBr:=Lib.hid hbr
   clear hmr hOr hbr s8 hf00 c0 c1 c2 c7 q7
   obtain ⟨bt,hbt⟩:∃ x,Hid (bothTo daw dmw dmw.length=x):=⟨_,Lib.hid rfl⟩
   rw [hbt.out] at HBO HCT HDR HCN HCE HL0
   unfold spv at HDR
   simp only at HDR
   go_wp2_with fail
   go_region_with (go_at_call 193;refine (HBO.out _ _ _ _ _ (hA2.later bX) (hM2.later bX)).mono ?_;rintro e w5 ⟨A5,ca5,rfl,o5,hb_w5⟩;have p3:w5.cell? ⟨g2,i * 8 + 3,none⟩=some (.int .i64 dmn):=cX hb_w5;have q3:w5.frozen? ⟨g2,i * 8 + 3,none⟩=false:=((bcell hb_w5).2 _ _ lX).trans (by first | assumption | (simp [go_sem];done) | exact (World.frozen?_alloc_past _ _ _ lX).trans (by assumption));have p4:w5.cell? ⟨g2,i * 8 + 4,none⟩=some (.slice A2 daw.length ca2):=cX hb_w5;have q4:w5.frozen? ⟨g2,i * 8 + 4,none⟩=false:=((bcell hb_w5).2 _ _ lX).trans (by first | assumption | (simp [go_sem];done) | exact (World.frozen?_alloc_past _ _ _ lX).trans (by assumption)))
   all_goals
    have hbw:Below wr.heap.size wr w5:=bX
    have m5:=HW.out.later hbw
    have hs5:=hbw.size
    have o5':Own w5 B A5 bt:=o5.mono (by first | omega | (simp only [zN,zD,zA];omega))
    have m6:=m5.setL_ (ca':=ca5) hV2 (i:=i) hi o5' (o5.apt (b:=b) (by first | omega | (simp only [zN,zD,zA];omega))) (o5.apt (b:=g2) (by first | omega | (simp only [zN,zD,zA];omega))) HL0.out
    simp only at m6
    rw [hD.out] at m6
    simp only at m6
    have hO6:=((HO.out.later hbw).far2 (p:=⟨g2,i * 8 + 3,none⟩) hgl (.int .i64 dmn)).far2 (p:=⟨g2,i * 8 + 4,none⟩) hgl (.slice A5 bt.length ca5)
    have hb6:Below B w ((w5.setCell ⟨g2,i * 8 + 3,none⟩ (.int .i64 dmn)).setCell ⟨g2,i * 8 + 4,none⟩ (.slice A5 bt.length ca5)):=((HBr.out.trans (hbw.mono (by omega))).setCell (p:=⟨g2,i * 8 + 3,none⟩) hgB (.int .i64 dmn)).setCell (p:=⟨g2,i * 8 + 4,none⟩) hgB (.slice A5 bt.length ca5)
    have hs6:w.heap.size ≤ ((w5.setCell ⟨g2,i * 8 + 3,none⟩ (.int .i64 dmn)).setCell ⟨g2,i * 8 + 4,none⟩ (.slice A5 bt.length ca5)).heap.size:=by simp only [zS];omega
    clear hbw m5 hs5 o5 o5' hb_w5 p3 p4 q3 q4 c3 c4 c5 c6 hA2 hM2 oA oM fz
    have m6':WB ((w5.setCell ⟨g2,i * 8 + 3,none⟩ (.int .i64 dmn)).setCell ⟨g2,i * 8 + 3 + 1,none⟩ (.slice A5 bt.length ca5)) B b _ _:=m6
    have hO6':OwnsN ((w5.setCell ⟨g2,i * 8 + 3,none⟩ (.int .i64 dmn)).setCell ⟨g2,i * 8 + 3 + 1,none⟩ (.slice A5 bt.length ca5)) w.heap.size L us.length c us:=hO6
    have hb6':Below B w ((w5.setCell ⟨g2,i * 8 + 3,none⟩ (.int .i64 dmn)).setCell ⟨g2,i * 8 + 3 + 1,none⟩ (.slice A5 bt.length ca5)):=hb6
    have hs6':w.heap.size ≤ ((w5.setCell ⟨g2,i * 8 + 3,none⟩ (.int .i64 dmn)).setCell ⟨g2,i * 8 + 3 + 1,none⟩ (.slice A5 bt.length ca5)).heap.size:=hs6
    clear m6 hO6 hb6 hs6
    generalize ((w5.setCell ⟨g2,i * 8 + 3,none⟩ (.int .i64 dmn)).setCell ⟨g2,i * 8 + 3 + 1,none⟩ (.slice A5 bt.length ca5))=w6 at *
    have hi6:i < (h.l.set i ⟨df,dp,dz,dmn,bt,dmn,dmw,ds⟩).length:=by rw [List.length_set];exact hi
    obtain ⟨g3,A3,ca3,M3,cm3,hV3,_,hgl3,hbg3,s3,oA3,oM3,fz3,f03,hf03⟩:=m6'.span hi6
    obtain rfl:g3=g2:=by
     have:=hV3.symm.trans hV2
     injection this with this
     injection this with this
    have en3:nth (h.l.set i ⟨df,dp,dz,dmn,bt,dmn,dmw,ds⟩) i=⟨df,dp,dz,dmn,bt,dmn,dmw,ds⟩:=by rw [nth_set _ _ _ _ hi,if_pos rfl]
    have m7:=m6'.set8 hV2 (i:=i) (j:=7) (u:=.bool true) hi6 (by omega) ⟨df,dp,dz,dmn,bt,dmn,dmw,true⟩ (by show bt=_;unfold setL;simp only;rw [en3]) (by show dmw=_;unfold setL;simp only;rw [en3]) (fun A ca M cm=>by unfold setL;simp only;rw [en3];rfl)
    unfold setL at m7 s3 oA3 oM3
    simp only at m7 s3 oA3 oM3
    rw [en3] at s3 oA3 oM3
    rw [List.set_set,← HCE.out] at m7
    obtain ⟨c0,c1,c2,c3,c4,c5,c6,c7⟩:=id s3
    simp only at oA3 oM3 c0 c1 c2 c3 c4 c5 c6 c7
    have q7:=fz3 (i * 8 + 7)
    have oA7:=(oA3.oth (p:=⟨g3,i * 8 + 7,none⟩) (oA3.apt_span hf03) (.bool true)).row
    have O7:=hO6'.far2 (p:=⟨g3,i * 8 + 7,none⟩) hgl (.bool true)
    have b7:Below B w (w6.setCell ⟨g3,i * 8 + 7,none⟩ (.bool true)):=hb6'.setCell (p:=⟨g3,i * 8 + 7,none⟩) hgB _
    have s7:w.heap.size ≤ (w6.setCell ⟨g3,i * 8 + 7,none⟩ (.bool true)).heap.size:=by rw [World.size_setCell];exact hs6'
    have HI7:Hid (i < (cl1H h i).l.length):=Lib.hid (by rw [HCE.out];show i < (h.l.set i _).length;rw [List.length_set];exact hi)
    have HE7:Hid (nth (cl1H h i).l i=⟨df,dp,dz,dmn,bt,dmn,dmw,true⟩):=Lib.hid (by rw [HCE.out];show nth (h.l.set i _) i=_;rw [nth_set _ _ _ _ hi,if_pos rfl])
    have M7:=Lib.hid m7
    clear m6' hO6' hb6' s3 oA3 oM3 fz3 f03 hf03 en3 m7 HBO HCE
    go_wp2_with fail
    go_at_call 67
    refine (HCT.out _ _ _ (by exact oA7)).mono ?_
    rintro e w8 ⟨rfl,hb_w8⟩
    have m8:=M7.out.later hb_w8
    have O8:=O7.later hb_w8
    have b8:Below B w w8:=b7.trans (hb_w8.mono (by omega))
    have hs8:=hb_w8.size
    clear M7 O7 oA7 c0 c1 c2 c3 c4 c5 c6 c7 q7
    by_cases hc0:countTo bt dmn.toNat=0
    ·have d0:(((countTo bt dmn.toNat:Nat):Int) == 0)=true:=by rw [hc0];rfl
     have HC0:=Lib.hid hc0
     clear hc0
     obtain ⟨g8,A8,ca8,M8,cm8,hV8,_,_,_,s8,_,_,_,_,_⟩:=m8.span HI7.out
     obtain rfl:g8=g3:=by
      have:=hV8.symm.trans hV2
      injection this with this
      injection this with this
     rw [HE7.out] at s8
     obtain ⟨c0,c1,c2,c3,c4,c5,c6,c7⟩:=id s8
     simp only at c0 c1 c2 c3 c4 c5 c6 c7
     go_wp2_with fail
     go_at_call 194
     refine (HDR.out _ _ _ _ (by exact m8) A8 M8 ca8 cm8).mono ?_
     rintro e w9 ⟨rfl,⟨v9,m9⟩,hb_w9,hg9⟩
     have O9:=O8.grownLt hg9 hbl
     have b9:Below B w w9:=b8.trans hb_w9
     go_wp2
     go_ret
     exact ⟨_,_,rfl,O9,(by rw [HCN.out.1 HC0.out];exact ⟨_,m9⟩),b9⟩
    ·have d0:(((countTo bt dmn.toNat:Nat):Int) == 0)=false:=by simp;omega
     have HC0:=Lib.hid hc0
     clear hc0
     go_wp2
     go_ret
     exact ⟨_,_,rfl,O8,(by rw [HCN.out.2 HC0.out];exact ⟨_,m8⟩),b8⟩
def FreshHw (w:World) (h:Hp) (t:List Nat) (y:Int) (e:Ending) (w':World):Prop:=∃ v A c,e=.returned (.tuple #[hpV v h,.slice A t.length c,.int .i64 y])∧OwnsH w' w.heap.size v h∧OwnsN w' w.heap.size A t.length c t∧Below w.heap.size w w'
theorem OwnsN.all {w:World} {B b n cap:Nat} {A:Option Addr} {t:List Nat} (o:OwnsN w B A n cap t) (hb:b < B) (u0 u1 u2 u3:Value):OwnsN ((((w.setCell ⟨b,0,none⟩ u0).setCell ⟨b,1,none⟩ u1).setCell ⟨b,2,none⟩ u2).setCell ⟨b,3,none⟩ u3) B A n cap t:=
 (((o.far2 (p:=⟨b,0,none⟩) hb u0).far2 (p:=⟨b,1,none⟩) hb u1).far2 (p:=⟨b,2,none⟩) hb u2).far2 (p:=⟨b,3,none⟩) hb u3
section
variable {w:World} {v:Hv} {h:Hp}
set_option maxHeartbeats 4000000 in
theorem zcleanH_any (hz:Sizes w) (hM:HM w w.heap.size v h) (hl:h.l.length ≤ 17592186044416) (hw:h.ws.length ≤ 17592186044416) (hnil:v.V=none → v.cv=0) (f:Int) (h':Hp) (t:List Nat) (y:Int) (hE:ClnE h f h' t y) :
  Calls Tryz.prog 40 #[hpV v h,.int .i64 f] w fun e w'=>FreshHw w h' t y e w':=by
 rcases hE with ⟨hk,rfl,rfl,rfl⟩ | ⟨hk,hI,he,rfl,rfl⟩ | ⟨i,hk,hI,hs,he,rfl,rfl⟩ | ⟨i,hk,hI,hs,rfl,rfl,rfl⟩
 ·have HR:=Lib.hid fun (w:World) z m=>zread_bad (w:=w) (v:=v) (h:=h) z m hl hw hk
  clear hk
  unfold hpV hpv at HR
  unfold FreshHw hpV hpv
  go_enter Tryz.func40,Tryz.ntmps40
  go_wp2_with fail
  go_at_call 73
  refine (HR.out _ (hz.later bX) (hM.later bX)).mono ?_
  rintro e w1 ⟨rfl,hb_w1⟩
  obtain ⟨hc_w1,hf_w1⟩:=bcell hb_w1;have hz_w1_w_0:w.heap.size < w1.heap.size:=lY hb_w1.size;have hz_w1_w_1:w.heap.size + 1 < w1.heap.size:=lY hb_w1.size;have hs_w1:=hb_w1.size;(try simp only [zZ] at hs_w1)
  have hR:=(B4.new (w.alloc (.cells #[.slice v.A h.ws.length v.ca,.int .i64 h.n,.slice v.U h.us.length v.cu,.slice v.V h.l.length v.cv] 31)) (.slice none 0 0) (.int .i64 0) (.slice none 0 0) (.slice none 0 0) 31).later hb_w1
  simp only [zA] at hR
  obtain ⟨r0,r1,r2,r3,z0,z1,z2,z3⟩:=id hR
  have hb1:Below w.heap.size w w1:=bX
  clear hc_w1 hf_w1
  go_wp2
  exact bodyPost_ret (res_hp3 rfl rfl (hR.all _ _ _ _)) rfl ⟨hv0,none,0,rfl,OwnsH.zero _ _,OwnsN.nil _ _,below_all hb1 (by omega) _ _ _ _⟩
 ·subst h'
  have HR:=Lib.hid fun (w:World) z m=>zread_ok (w:=w) (v:=v) (h:=h) z m hk
  have HTW:=Lib.hid fun (w:World) m=>ztwin_any (w:=w) (v:=v) (h:=h) m hk.framed hnil
  have hl256:=hk.framed.spans.1
  have HSP:=Lib.hid fun (w:World) (V:Option Addr) (A U:Option Addr) (na ca nu cu cv:Nat) (hv:SRow w w.heap.size V h.l)=>zspanat_any (w:=w) (n:=h.n) (A:=A) (U:=U) (V:=V) (l:=h.l) na ca nu cu cv hv (by omega) f (-1) hI
  clear hk hI
  unfold hpv at HSP
  unfold hpV hpv at HR HTW
  unfold FreshHw hpV hpv
  go_enter Tryz.func40,Tryz.ntmps40
  go_wp2_with fail
  go_at_call 73
  refine (HR.out _ (hz.later bX) (hM.later bX)).mono ?_
  rintro e w1 ⟨g,L,N,rfl,hg,hRd,hq,hb_w1⟩
  obtain ⟨hc_w1,hf_w1⟩:=bcell hb_w1;have hz_w1_w_0:w.heap.size < w1.heap.size:=lY hb_w1.size;have hz_w1_w_1:w.heap.size + 1 < w1.heap.size:=lY hb_w1.size;have hs_w1:=hb_w1.size;(try simp only [zZ] at hs_w1)
  have hR:=(B4.new (w.alloc (.cells #[.slice v.A h.ws.length v.ca,.int .i64 h.n,.slice v.U h.us.length v.cu,.slice v.V h.l.length v.cv] 31)) (.slice none 0 0) (.int .i64 0) (.slice none 0 0) (.slice none 0 0) 31).later hb_w1
  simp only [zA] at hR hg
  have hb1:Below w.heap.size w w1:=bX
  have hs1:=hR.lt
  have hg1:=hRd.rd.lt
  obtain ⟨m0,m1,m2,m3⟩:=id hRd.rd.hb
  clear hc_w1 hf_w1
  go_wp2_with fail
  go_at_call 74
  refine (HTW.out _ (hRd.rd.mem.more (by omega))).mono ?_
  rintro e w2 ⟨v2,rfl,oH,hb_w2⟩
  have hR2:=hR.later hb_w2
  have hRd2:=hRd.later hb_w2
  have hb2:Below w.heap.size w w2:=hb1.trans (hb_w2.mono hb1.size)
  have hs2:=hb_w2.size
  have hW:=WB.new oH hb_w2.size 112
  have hb3:Below w2.heap.size w2 (w2.alloc (.cells #[.slice v2.A h.ws.length v2.ca,.int .i64 h.n,.slice v2.U h.us.length v2.cu,.slice v2.V h.l.length v2.cv] 112)):=Below.alloc (Below.refl _ _) (Nat.le_refl _) _
  have hR3:=hR2.later hb3
  have hRd3:=hRd2.later hb3
  have hbb3:Below w.heap.size w (w2.alloc (.cells #[.slice v2.A h.ws.length v2.ca,.int .i64 h.n,.slice v2.U h.us.length v2.cu,.slice v2.V h.l.length v2.cv] 112)):=hb2.alloc hb2.size _
  have hs3:(w2.alloc (.cells #[.slice v2.A h.ws.length v2.ca,.int .i64 h.n,.slice v2.U h.us.length v2.cu,.slice v2.V h.l.length v2.cv] 112)).heap.size=w2.heap.size + 1:=World.size_alloc _ _
  clear hb_w1 hb_w2 m0 m1 m2 m3 hR hRd oH hR2 hRd2 hb1 hb2 hb3
  obtain ⟨c0,c1,c2,c3,f0,f1,f2,f3⟩:=id hW.box
  go_wp2_with fail
  go_at_call 116
  refine (HSP.out _ v2.V v2.A v2.U h.ws.length v2.ca h.us.length v2.cu v2.cv hW.hm.v).mono ?_
  rintro e w4 ⟨rfl,hb_w4⟩
  have hW4:=hW.later hb_w4
  have hR4:=hR3.later hb_w4
  have hs4:=hb_w4.size
  rw [hs3] at hs4
  have hb4:Below w.heap.size w w4:=hbb3.trans (hb_w4.mono hbb3.size)
  clear c0 c1 c2 c3 f0 f1 f2 f3
  obtain ⟨c0,c1,c2,c3,f0,f1,f2,f3⟩:=id hW4.box
  obtain ⟨r0,r1,r2,r3,z0,z1,z2,z3⟩:=id hR4
  go_wp2
  exact bodyPost_ret (res_hp3 rfl rfl (hR4.all _ _ _ _)) rfl ⟨v2,none,0,rfl,(hW4.owns.all (by omega) _ _ _ _).mono (by omega),OwnsN.nil _ _,below_all hb4 (by omega) _ _ _ _⟩
 ·subst h'
  have HR:=Lib.hid fun (w:World) z m=>zread_ok (w:=w) (v:=v) (h:=h) z m hk
  have HTW:=Lib.hid fun (w:World) m=>ztwin_any (w:=w) (v:=v) (h:=h) m hk.framed hnil
  have hl256:=hk.framed.spans.1
  have HSP:=Lib.hid fun (w:World) (V:Option Addr) (A U:Option Addr) (na ca nu cu cv:Nat) (hv:SRow w w.heap.size V h.l)=>zspanat_any (w:=w) (n:=h.n) (A:=A) (U:=U) (V:=V) (l:=h.l) na ca nu cu cv hv (by omega) f (i:Int) hI
  have HI:=Lib.hid hI.lt
  have HSW:=Lib.hid hs
  clear hk hI hs
  unfold hpv at HSP
  unfold hpV hpv at HR HTW
  unfold FreshHw hpV hpv
  go_enter Tryz.func40,Tryz.ntmps40
  go_wp2_with fail
  go_at_call 73
  refine (HR.out _ (hz.later bX) (hM.later bX)).mono ?_
  rintro e w1 ⟨g,L,N,rfl,hg,hRd,hq,hb_w1⟩
  obtain ⟨hc_w1,hf_w1⟩:=bcell hb_w1;have hz_w1_w_0:w.heap.size < w1.heap.size:=lY hb_w1.size;have hz_w1_w_1:w.heap.size + 1 < w1.heap.size:=lY hb_w1.size;have hs_w1:=hb_w1.size;(try simp only [zZ] at hs_w1)
  have hR:=(B4.new (w.alloc (.cells #[.slice v.A h.ws.length v.ca,.int .i64 h.n,.slice v.U h.us.length v.cu,.slice v.V h.l.length v.cv] 31)) (.slice none 0 0) (.int .i64 0) (.slice none 0 0) (.slice none 0 0) 31).later hb_w1
  simp only [zA] at hR hg
  have hb1:Below w.heap.size w w1:=bX
  have hs1:=hR.lt
  have hg1:=hRd.rd.lt
  obtain ⟨m0,m1,m2,m3⟩:=id hRd.rd.hb
  clear hc_w1 hf_w1
  go_wp2_with fail
  go_at_call 74
  refine (HTW.out _ (hRd.rd.mem.more (by omega))).mono ?_
  rintro e w2 ⟨v2,rfl,oH,hb_w2⟩
  have hR2:=hR.later hb_w2
  have hRd2:=hRd.later hb_w2
  have hb2:Below w.heap.size w w2:=hb1.trans (hb_w2.mono hb1.size)
  have hs2:=hb_w2.size
  have hW:=WB.new oH hb_w2.size 112
  have hb3:Below w2.heap.size w2 (w2.alloc (.cells #[.slice v2.A h.ws.length v2.ca,.int .i64 h.n,.slice v2.U h.us.length v2.cu,.slice v2.V h.l.length v2.cv] 112)):=Below.alloc (Below.refl _ _) (Nat.le_refl _) _
  have hR3:=hR2.later hb3
  have hRd3:=hRd2.later hb3
  have hbb3:Below w.heap.size w (w2.alloc (.cells #[.slice v2.A h.ws.length v2.ca,.int .i64 h.n,.slice v2.U h.us.length v2.cu,.slice v2.V h.l.length v2.cv] 112)):=hb2.alloc hb2.size _
  have hs3:(w2.alloc (.cells #[.slice v2.A h.ws.length v2.ca,.int .i64 h.n,.slice v2.U h.us.length v2.cu,.slice v2.V h.l.length v2.cv] 112)).heap.size=w2.heap.size + 1:=World.size_alloc _ _
  clear hb_w1 hb_w2 m0 m1 m2 m3 hR hRd oH hR2 hRd2 hb1 hb2 hb3
  obtain ⟨c0,c1,c2,c3,f0,f1,f2,f3⟩:=id hW.box
  go_wp2_with fail
  go_at_call 116
  refine (HSP.out _ v2.V v2.A v2.U h.ws.length v2.ca h.us.length v2.cu v2.cv hW.hm.v).mono ?_
  rintro e w4 ⟨rfl,hb_w4⟩
  have hW4:=hW.later hb_w4
  have hR4:=hR3.later hb_w4
  have hs4:=hb_w4.size
  rw [hs3] at hs4
  have hb4:Below w.heap.size w w4:=hbb3.trans (hb_w4.mono hbb3.size)
  clear c0 c1 c2 c3 f0 f1 f2 f3
  obtain ⟨g4,A4,ca4,M4,cm4,hV4,hgB4,hgl4,hbg4,s8,oA4,oM4,fz4,f04,hf04⟩:=hW4.span HI.out
  have i0:(0:Int) ≤ (i:Int):=by omega
  have i1:(i:Int) < (h.l.length:Int):=by have:=HI.out;omega
  have s7:=s8.c7
  rw [HSW.out] at s7
  have hV4':=Lib.hid hV4
  clear s8 oA4 oM4 fz4 hf04
  obtain ⟨V0,V1,V2,V3,V4,V5⟩:=v2
  simp only at hV4
  subst hV4
  obtain ⟨c0,c1,c2,c3,f0,f1,f2,f3⟩:=id hW4.box
  obtain ⟨r0,r1,r2,r3,z0,z1,z2,z3⟩:=id hR4
  go_wp2
  exact bodyPost_ret (res_hp3 rfl rfl (hR4.all _ _ _ _)) rfl ⟨⟨V0,V1,V2,V3,(some ⟨g4,0,none⟩),V5⟩,none,0,rfl,(hW4.owns.all (by omega) _ _ _ _).mono (by omega),OwnsN.nil _ _,below_all hb4 (by omega) _ _ _ _⟩
 ·have HR:=Lib.hid fun (w:World) z m=>zread_ok (w:=w) (v:=v) (h:=h) z m hk
  have HTW:=Lib.hid fun (w:World) m=>ztwin_any (w:=w) (v:=v) (h:=h) m hk.framed hnil
  have hl256:=hk.framed.spans.1
  have HSP:=Lib.hid fun (w:World) (V:Option Addr) (A U:Option Addr) (na ca nu cu cv:Nat) (hv:SRow w w.heap.size V h.l)=>zspanat_any (w:=w) (n:=h.n) (A:=A) (U:=U) (V:=V) (l:=h.l) na ca nu cu cv hv (by omega) f (i:Int) hI
  have HI:=Lib.hid hI.lt
  have HSW:=Lib.hid hs
  have HCL:=Lib.hid fun (w:World) (B b:Nat) (v:Hv) (mm:WB w B b v h)=>zclean_any mm hk hI.lt hs
  clear hk hI hs
  unfold hpv at HSP
  unfold hpV hpv at HR HTW
  unfold FreshHw hpV hpv
  go_enter Tryz.func40,Tryz.ntmps40
  go_wp2_with fail
  go_at_call 73
  refine (HR.out _ (hz.later bX) (hM.later bX)).mono ?_
  rintro e w1 ⟨g,L,N,rfl,hg,hRd,hq,hb_w1⟩
  obtain ⟨hc_w1,hf_w1⟩:=bcell hb_w1;have hz_w1_w_0:w.heap.size < w1.heap.size:=lY hb_w1.size;have hz_w1_w_1:w.heap.size + 1 < w1.heap.size:=lY hb_w1.size;have hs_w1:=hb_w1.size;(try simp only [zZ] at hs_w1)
  have hR:=(B4.new (w.alloc (.cells #[.slice v.A h.ws.length v.ca,.int .i64 h.n,.slice v.U h.us.length v.cu,.slice v.V h.l.length v.cv] 31)) (.slice none 0 0) (.int .i64 0) (.slice none 0 0) (.slice none 0 0) 31).later hb_w1
  simp only [zA] at hR hg
  have hb1:Below w.heap.size w w1:=bX
  have hs1:=hR.lt
  have hg1:=hRd.rd.lt
  obtain ⟨m0,m1,m2,m3⟩:=id hRd.rd.hb
  clear hc_w1 hf_w1
  go_wp2_with fail
  go_at_call 74
  refine (HTW.out _ (hRd.rd.mem.more (by omega))).mono ?_
  rintro e w2 ⟨v2,rfl,oH,hb_w2⟩
  have hR2:=hR.later hb_w2
  have hRd2:=hRd.later hb_w2
  have hb2:Below w.heap.size w w2:=hb1.trans (hb_w2.mono hb1.size)
  have hs2:=hb_w2.size
  have hW:=WB.new oH hb_w2.size 112
  have hb3:Below w2.heap.size w2 (w2.alloc (.cells #[.slice v2.A h.ws.length v2.ca,.int .i64 h.n,.slice v2.U h.us.length v2.cu,.slice v2.V h.l.length v2.cv] 112)):=Below.alloc (Below.refl _ _) (Nat.le_refl _) _
  have hR3:=hR2.later hb3
  have hRd3:=hRd2.later hb3
  have hbb3:Below w.heap.size w (w2.alloc (.cells #[.slice v2.A h.ws.length v2.ca,.int .i64 h.n,.slice v2.U h.us.length v2.cu,.slice v2.V h.l.length v2.cv] 112)):=hb2.alloc hb2.size _
  have hs3:(w2.alloc (.cells #[.slice v2.A h.ws.length v2.ca,.int .i64 h.n,.slice v2.U h.us.length v2.cu,.slice v2.V h.l.length v2.cv] 112)).heap.size=w2.heap.size + 1:=World.size_alloc _ _
  clear hb_w1 hb_w2 m0 m1 m2 m3 hR hRd oH hR2 hRd2 hb1 hb2 hb3
  obtain ⟨c0,c1,c2,c3,f0,f1,f2,f3⟩:=id hW.box
  go_wp2_with fail
  go_at_call 116
  refine (HSP.out _ v2.V v2.A v2.U h.ws.length v2.ca h.us.length v2.cu v2.cv hW.hm.v).mono ?_
  rintro e w4 ⟨rfl,hb_w4⟩
  have hW4:=hW.later hb_w4
  have hR4:=hR3.later hb_w4
  have hs4:=hb_w4.size
  rw [hs3] at hs4
  have hb4:Below w.heap.size w w4:=hbb3.trans (hb_w4.mono hbb3.size)
  clear c0 c1 c2 c3 f0 f1 f2 f3
  obtain ⟨g4,A4,ca4,M4,cm4,hV4,hgB4,hgl4,hbg4,s8,oA4,oM4,fz4,f04,hf04⟩:=hW4.span HI.out
  have i0:(0:Int) ≤ (i:Int):=by omega
  have i1:(i:Int) < (h.l.length:Int):=by have:=HI.out;omega
  have s7:=s8.c7
  rw [HSW.out] at s7
  have hV4':=Lib.hid hV4
  clear s8 oA4 oM4 fz4 hf04
  obtain ⟨c0,c1,c2,c3,f0,f1,f2,f3⟩:=id hW4.box
  rw [hV4] at c3
  go_wp2_with fail
  go_at_call 117
  refine (HCL.out _ _ _ _ hW4).mono ?_
  rintro e w5 ⟨L5,c5,rfl,o5,⟨v5,hW5⟩,hb_w5⟩
  clear c0 c1 c2 c3 f0 f1 f2 f3
  clear s7
  have hR5:=hR4.below hb_w5 (by omega)
  have hs5:=hb_w5.size
  have hb5:Below w.heap.size w w5:=hb4.trans (hb_w5.mono (by omega))
  obtain ⟨c0,c1,c2,c3,f0,f1,f2,f3⟩:=id hW5.box
  obtain ⟨r0,r1,r2,r3,z0,z1,z2,z3⟩:=id hR5
  go_wp2
  exact bodyPost_ret (res_hp3 rfl rfl (hR5.all _ _ _ _)) rfl ⟨v5,L5,c5,rfl,(hW5.owns.all (by omega) _ _ _ _).mono (by omega),(o5.all (b:=w.heap.size + 1) (by omega) _ _ _ _).mono (by omega),below_all hb5 (by omega) _ _ _ _⟩
end
def lh0:Hp:=mkH 4
theorem lk0:OkH lh0:=mkH_ok (by decide) (by decide)
theorem lmake:MakE 4 lh0 0:=.inr ⟨by decide,rfl,rfl⟩
theorem WB.put {w:World} {B B' b:Nat} {x0 x1 x2 x3:Value} {v:Hv} {h:Hp} (hx:B4 w b x0 x1 x2 x3) (hle:B ≤ b) (o:OwnsH w B' v h) (hb:b < B') (hB:B ≤ B') :
  WB ((((w.setCell ⟨b,0,none⟩ (.slice v.A h.ws.length v.ca)).setCell ⟨b,1,none⟩ (.int .i64 h.n)).setCell ⟨b,2,none⟩ (.slice v.U h.us.length v.cu)).setCell ⟨b,3,none⟩ (.slice v.V h.l.length v.cv)) B b v h:=by
 have o2:=o.all hb (.slice v.A h.ws.length v.ca) (.int .i64 h.n) (.slice v.U h.us.length v.cu) (.slice v.V h.l.length v.cv)
 have o3:=o2.mono hB
 obtain ⟨vs,e,hs⟩:=o2.s
 obtain ⟨vs',e',hs'⟩:=o3.s
 exact ⟨hx.all _ _ _ _,hle,o3.a,o3.u,⟨vs,e,⟨hs.len,(hs.mono hB).row_,(hs.mono hB).words,hs.apart⟩,hs.aptS_ge hb⟩,o2.a.apt hb,o2.u.apt hb⟩
theorem OkH.lens {h:Hp} (hk:OkH h):h.l.length ≤ 17592186044416∧h.ws.length ≤ 17592186044416:=by
 have h1:=hk.framed.spans.1
 have h2:=hk.framed.words
 exact ⟨by omega,by omega⟩
theorem below_put {B b:Nat} {a W w:World} (o:Below B a W) (hb:Below W.heap.size W w) (hB:B ≤ W.heap.size) (hle:B ≤ b) (u0 u1 u2 u3:Value):Below B a ((((w.setCell ⟨b,0,none⟩ u0).setCell ⟨b,1,none⟩ u1).setCell ⟨b,2,none⟩ u2).setCell ⟨b,3,none⟩ u3):=
 below_all (o.trans (hb.mono hB)) hle u0 u1 u2 u3
end Go.Proofs.YtafpkaifaccehaaGreatDoor
