/- Parts of the proof. -/
import Derived.Test.YtafpkaifaccehaaGreatDoorScavP14
import Derived.Deep.Slices
import Derived.Deep.RegionHeld3
import Derived.Deep.QuietTactic
import Derived.BigQuiet
set_option maxRecDepth 100000
set_option linter.unusedVariables false
set_option linter.unusedSimpArgs false
namespace Go.Proofs.YtafpkaifaccehaaGreatDoor
open Go.RowKit
instance:Inhabited Sv:=⟨⟨sd0,none,0,none,0⟩⟩
def RowsV (w:World) (vs:List Sv):Prop:=∀ v ∈ vs,Row w w.heap.size v.A v.d.aw∧Row w w.heap.size v.M v.d.mw
theorem RowsV.later {w w':World} {vs:List Sv} (h:RowsV w vs) (hb:Below w.heap.size w w'):RowsV w' vs:=fun v hv=>⟨(h v hv).1.later hb,(h v hv).2.later hb⟩
theorem vrow_of {w:World} {b off:Nat} {vs:List Sv} (hb:b < w.heap.size) (h:∀ i (hi:i < vs.length),Sp8 w b (off + i * 8) vs[i].d vs[i].A vs[i].ca vs[i].M vs[i].cm):VRow w (some ⟨b,off,none⟩) vs:=fun _=>by
 refine ⟨b,off,rfl,hb,fun j u hj=>?_⟩
 have hjl:j < vs.length * 8:=by
  have:=(List.getElem?_eq_some_iff.1 hj).1
  rwa [flat8_len] at this
 have hi:j / 8 < vs.length:=by omega
 have e:=flat8_at vs (j / 8) (j % 8) (Nat.mod_lt _ (by omega))
 rw [show j / 8 * 8 + j % 8=j by omega,hj,List.getElem?_eq_getElem hi,Option.bind_some] at e
 obtain ⟨c0,c1,c2,c3,c4,c5,c6,c7⟩:=h (j / 8) hi
 have hm:j % 8=0 ∨ j % 8=1 ∨ j % 8=2 ∨ j % 8=3 ∨ j % 8=4 ∨ j % 8=5 ∨ j % 8=6 ∨ j % 8=7:=by omega
 have hoj:∀ k,j % 8=k → off + j / 8 * 8 + k=off + j:=fun k hk=>by omega
 rcases hm with hm | hm | hm | hm | hm | hm | hm | hm
 all_goals
  have ho:=hoj _ hm
  rw [hm] at e
  simp only [cells8,List.getElem?_cons_zero,List.getElem?_cons_succ] at e
  injection e with e
  subst e
  first
   | (rw [Nat.add_zero] at ho;rw [← ho];exact c0)
   | (rw [← ho];first | exact c1 | exact c2 | exact c3 | exact c4 | exact c5 | exact c6 | exact c7)
theorem SRow.vals {w:World} {A:Option Addr} {l:List Sd} (h:SRow w w.heap.size A l):∃ vs,sdsOf vs=l∧VRow w A vs∧RowsV w vs:=by
 by_cases h0:0 < l.length
 ·obtain ⟨b,off,rfl,hb,hc⟩:=h.at_ h0
  have each:∀ i,i < l.length → ∃ v:Sv,v.d=nth l i∧Sp8 w b (off + i * 8) v.d v.A v.ca v.M v.cm∧Row w w.heap.size v.A v.d.aw∧Row w w.heap.size v.M v.d.mw:=fun i hi=>by
   obtain ⟨Aa,ca,Am,cm,h1,h2,h3⟩:=hc i hi
   exact ⟨⟨nth l i,Aa,ca,Am,cm⟩,rfl,h1,h2,h3⟩
  obtain ⟨f,hf⟩:=Go.Deep.choose_lt each
  refine ⟨(List.range l.length).map f,?_,vrow_of hb (fun i hi=>?_),fun v hv=>?_⟩
  ·unfold sdsOf
   apply List.ext_getElem (by simp)
   intro i h1 h2
   simp only [List.getElem_map,List.getElem_range]
   rw [(hf i h2).1]
   unfold nth
   rw [List.getD_eq_getElem?_getD,List.getElem?_eq_getElem h2]
   rfl
  ·simp only [List.getElem_map,List.getElem_range]
   exact (hf i (by simpa using hi)).2.1
  ·obtain ⟨i,hi,rfl⟩:=List.mem_map.1 hv
   obtain ⟨_,_,h2,h3⟩:=hf i (by simpa using hi)
   exact ⟨h2,h3⟩
 ·obtain rfl:l=[]:=List.eq_nil_of_length_eq_zero (by omega)
  exact ⟨[],rfl,fun h=>by simp at h,fun v hv=>(by cases hv)⟩
theorem sds_len {vs:List Sv} {l:List Sd} (h:sdsOf vs=l):vs.length=l.length:=by rw [← h];simp [sdsOf]
theorem VRow.take {w:World} {A:Option Addr} {vs:List Sv} (h:VRow w A vs) (k:Nat):VRow w A (vs.take k):=fun hl=>by
 rw [List.length_take] at hl
 obtain ⟨b,off,e,hb,hc⟩:=h (by omega)
 refine ⟨b,off,e,hb,fun j u hj=>hc j u ?_⟩
 have hk:vs=vs.take k ++ vs.drop k:=(List.take_append_drop k vs).symm
 rw [hk,flat8_app,List.getElem?_append_left (List.getElem?_eq_some_iff.1 hj).1]
 exact hj
theorem VRow.drop {w:World} {b off:Nat} {vs:List Sv} (h:VRow w (some ⟨b,off,none⟩) vs) (k:Nat):VRow w (some ⟨b,off + k * 8,none⟩) (vs.drop k):=fun hl=>by
 rw [List.length_drop] at hl
 obtain ⟨b',off',e,hb,hc⟩:=h (by omega)
 injection e with e
 injection e with e1 e2
 subst e1 e2
 refine ⟨b,off + k * 8,rfl,hb,fun j u hj=>?_⟩
 rw [Nat.add_assoc]
 refine hc (k * 8 + j) u ?_
 have hk:vs=vs.take k ++ vs.drop k:=(List.take_append_drop k vs).symm
 have hl2:(flat8 (vs.take k)).length=k * 8:=by rw [flat8_len,List.length_take];omega
 rw [hk,flat8_app,List.getElem?_append_right (by omega),hl2,show k * 8 + j - k * 8=j by omega]
 exact hj
theorem prow1 {w:World} {A:Option Addr} {vs:List Sv} {n c:Nat} {t:TypeId} (g:Nat) (hg:w.heap.size=g) (h:VRow w A vs) (hn:vs.length=n):PRow (w.alloc (.cells #[.slice A n c] t)) (some ⟨g,0,none⟩) [vs]:=fun _=>by
 subst hg hn
 refine ⟨w.heap.size,rfl,by simp,fun i hi=>?_⟩
 have:i=0:=by simp at hi;omega
 subst this
 exact ⟨A,c,by simp [go_sem],h.later ((Below.refl _ _).alloc (Nat.le_refl _) _)⟩
theorem prow2 {w:World} {A1 A2:Option Addr} {v1 v2:List Sv} {n1 n2 c1 c2:Nat} {t:TypeId} (g:Nat) (hg:w.heap.size=g) (h1:VRow w A1 v1) (h2:VRow w A2 v2) (e1:v1.length=n1) (e2:v2.length=n2):PRow (w.alloc (.cells #[.slice A1 n1 c1,.slice A2 n2 c2] t)) (some ⟨g,0,none⟩) [v1,v2]:=fun _=>by
 subst hg e1 e2
 refine ⟨w.heap.size,rfl,by simp,fun i hi=>?_⟩
 have:i=0 ∨ i=1:=by simp at hi;omega
 have hb:Below w.heap.size w (w.alloc (.cells #[.slice A1 v1.length c1,.slice A2 v2.length c2] t)):=(Below.refl _ _).alloc (Nat.le_refl _) _
 rcases this with rfl | rfl
 ·exact ⟨A1,c1,by simp [go_sem],h1.later hb⟩
 ·exact ⟨A2,c2,by simp [go_sem],h2.later hb⟩
theorem prow3 {w:World} {A1 A2 A3:Option Addr} {v1 v2 v3:List Sv} {n1 n2 n3 c1 c2 c3:Nat} {t:TypeId} (g:Nat) (hg:w.heap.size=g) (h1:VRow w A1 v1) (h2:VRow w A2 v2) (h3:VRow w A3 v3) (e1:v1.length=n1) (e2:v2.length=n2) (e3:v3.length=n3):PRow (w.alloc (.cells #[.slice A1 n1 c1,.slice A2 n2 c2,.slice A3 n3 c3] t)) (some ⟨g,0,none⟩) [v1,v2,v3]:=fun _=>by
 subst hg e1 e2 e3
 refine ⟨w.heap.size,rfl,by simp,fun i hi=>?_⟩
 have:i=0 ∨ i=1 ∨ i=2:=by simp at hi;omega
 have hb:Below w.heap.size w (w.alloc (.cells #[.slice A1 v1.length c1,.slice A2 v2.length c2,.slice A3 v3.length c3] t)):=(Below.refl _ _).alloc (Nat.le_refl _) _
 rcases this with rfl | rfl | rfl
 ·exact ⟨A1,c1,by simp [go_sem],h1.later hb⟩
 ·exact ⟨A2,c2,by simp [go_sem],h2.later hb⟩
 ·exact ⟨A3,c3,by simp [go_sem],h3.later hb⟩
theorem OkL.words {l:List Sd} (h:OkL l):∀ d ∈ l,d.aw.length=1∧d.mw.length=1:=fun d hd=>by
 obtain ⟨i,hi,rfl⟩:=List.getElem_of_mem hd
 have:=h.2.1 i hi
 unfold nth at this
 rw [List.getD_eq_getElem?_getD,List.getElem?_eq_getElem hi] at this
 exact ⟨this.aw,this.mw⟩
theorem sds_app (a b:List Sv):sdsOf (a ++ b)=sdsOf a ++ sdsOf b:=by simp [sdsOf]
theorem sds_take (a:List Sv) (k:Nat):sdsOf (a.take k)=(sdsOf a).take k:=by simp [sdsOf,List.map_take]
theorem sds_drop (a:List Sv) (k:Nat):sdsOf (a.drop k)=(sdsOf a).drop k:=by simp [sdsOf,List.map_drop]
def FreshL5 (w:World) (r:List Sd) (y:Int) (e:Ending) (w':World):Prop:=
 ∃ A c vs,e=.returned (.tuple #[.slice A r.length c,.int .i64 y])∧sdsOf vs=r∧OwnsS w' w.heap.size A r.length c vs∧Below w.heap.size w w'
theorem scopy1_any {W w:World} {A:Option Addr} {l:List Sd} {vs:List Sv} {n c g:Nat} {t:TypeId} (hg:w.heap.size=g) (hok:∀ d ∈ l,d.aw.length=1∧d.mw.length=1) (hl:l.length ≤ 256) (hn:l.length=n) (hs:sdsOf vs=l) (hv:VRow w A vs) (hr:RowsV w vs) :
  Calls Tryz.prog 261 #[.slice (some ⟨g,0,none⟩) 1 1] (w.alloc (.cells #[.slice A n c] t)) fun e w'=>∃ A' c' us,e=.returned (.slice A' n c')∧sdsOf us=l∧OwnsS w' (g + 1) A' n c' us∧Below (g + 1) (w.alloc (.cells #[.slice A n c] t)) w':=by
 have hlen:=sds_len hs
 have hb:Below w.heap.size w (w.alloc (.cells #[.slice A n c] t)):=(Below.refl _ _).alloc (Nat.le_refl _) _
 have h:=scopies_any (w:=w.alloc (.cells #[.slice A n c] t)) (P:=some ⟨g,0,none⟩) (ps:=[vs]) 1 (prow1 g hg hv (by omega)) (by simp) (by simp;omega) (fun v hv'=>by
  have hm:v ∈ vs:=by simpa using hv'
  obtain ⟨r1,r2⟩:=(hr.later hb) v hm
  have hd:v.d ∈ l:=by rw [← hs];exact List.mem_map.2 ⟨v,hm,rfl⟩
  exact ⟨r1,r2,(hok _ hd).1,(hok _ hd).2⟩) n (by simp;omega) 1 rfl
 rw [World.size_alloc,hg] at h
 refine h.mono ?_
 rintro e w' ⟨A',c',us,rfl,h1,h2,h3⟩
 exact ⟨A',c',us,rfl,by rw [h1];simpa using hs,h2,h3⟩
def DropE (l:List Sd) (first:Int) (r:List Sd) (y:Int):Prop:=(¬ OkL l∧r=[]∧y=2) ∨ (OkL l∧IdxE l (fun d=>d.f == first) (-1)∧r=l∧y=3) ∨ (∃ i:Nat,OkL l∧IdxE l (fun d=>d.f == first) i∧r=l.take i ++ l.drop (i + 1)∧y=0)
theorem DropE.ex (l:List Sd) (first:Int):∃ r y,DropE l first r y:=by
 by_cases h:OkL l
 ·obtain ⟨x,hx⟩:=IdxE.ex l fun d=>d.f == first
  rcases hx with ⟨rfl,h2⟩ | ⟨i,rfl,h2⟩
  ·exact ⟨_,_,.inr (.inl ⟨h,.inl ⟨rfl,h2⟩,rfl,rfl⟩)⟩
  ·exact ⟨_,_,.inr (.inr ⟨i,h,.inr ⟨i,rfl,h2⟩,rfl,rfl⟩)⟩
 ·exact ⟨_,_,.inl ⟨h,rfl,rfl⟩⟩
theorem IdxE.lt {l:List Sd} {p:Sd → Bool} {i:Nat} (h:IdxE l p (i:Nat)):i < l.length:=by
 rcases h with ⟨h1,_⟩ | ⟨j,h1,h2,_⟩
 ·omega
 ·omega
theorem says_drop1 {w:World} {l:List Sd} (first:Int) (B:Nat) (hB:w.cell? ⟨B,0,none⟩=some (.int .i64 first)):Says 268 #[.pointer (some ⟨B,0,none⟩)] l (fun d=>d.f == first) w:=
 fun W i A M ca cm hb hi hA hM=>sdrop1_any ca cm first B ((hb.cell (p:=⟨B,0,none⟩) (World.block_lt_of_cell? w _ hB)).trans hB)
section
variable {w:World} {A:Option Addr} {l:List Sd} (cap:Nat)
set_option maxHeartbeats 4000000 in
theorem sdrop_any (hr:SRow w w.heap.size A l) (hcl:l.length ≤ cap) (hl:l.length ≤ 17592186044416) (first:Int) (r:List Sd) (y:Int) (hE:DropE l first r y) :
  Calls Tryz.prog 243 #[.slice A l.length cap,.int .i64 first] w fun e w'=>FreshL5 w r y e w':=by
 unfold FreshL5
 rcases hE with ⟨h,rfl,rfl⟩ | ⟨h,hI,rfl,rfl⟩ | ⟨i,h,hI,hre,rfl⟩
 ·have C:=Lib.hid fun (w:World) hr=>scheck_any (w:=w) (A:=A) (l:=l) cap hr hl 2 (.inr ⟨h,rfl⟩)
  clear h
  go_enter Tryz.func243,Tryz.ntmps243
  go_wp2_with fail
  go_at_call 217
  refine (C.out _ (hr.later bX)).mono ?_
  rintro e w1 ⟨rfl,hb_w1⟩
  obtain ⟨hc_w1,hf_w1⟩:=bcell hb_w1;have hz_w1_w_0:w.heap.size < w1.heap.size:=lY hb_w1.size;have hs_w1:=hb_w1.size;(try simp only [zZ] at hs_w1)
  go_wp2
  go_ret2
  exact ⟨none,0,[],rfl,rfl,OwnsS.nil _ _,bX⟩
 ·have C:=Lib.hid fun (w:World) hr=>scheck_any (w:=w) (A:=A) (l:=r) cap hr hl 0 (.inl ⟨h,rfl⟩)
  have HI:=Lib.hid hI
  have HW:=Lib.hid h.words
  have h256:=h.1
  clear h hI
  go_enter Tryz.func243,Tryz.ntmps243
  go_wp2_with fail
  go_at_call 217
  refine (C.out _ (hr.later bX)).mono ?_
  rintro e w1 ⟨rfl,hb_w1⟩
  obtain ⟨hc_w1,hf_w1⟩:=bcell hb_w1;have hz_w1_w_0:w.heap.size < w1.heap.size:=lY hb_w1.size;have hs_w1:=hb_w1.size;(try simp only [zZ] at hs_w1)
  have ka:w1.cell? ⟨w.heap.size,0,none⟩=some (.int .i64 first):=(hc_w1 _ _ lX).trans (by simp [go_sem])
  go_wp2_with fail
  go_at_call 188
  refine (sindex_any cap 268 _ (fun d=>d.f == first) eg_drop1 (hr.later bX) hl (says_drop1 first _ ka) (-1) HI.out).mono ?_
  rintro e w2 ⟨rfl,hb_w2⟩
  obtain ⟨hc_w2,hf_w2⟩:=bcell hb_w2;have hz_w2_w_0:w.heap.size < w2.heap.size:=lY hb_w2.size;have hs_w2:=hb_w2.size;(try simp only [zZ] at hs_w2)
  have b2:Below w.heap.size w w2:=bX
  obtain ⟨vs,h1,h2,h3⟩:=(hr.later b2).vals
  have HX:=Lib.hid fun (g:Nat) (hg:w2.heap.size=g) (t:TypeId)=>scopy1_any (W:=w2) (w:=w2) (n:=r.length) (c:=cap) (t:=t) hg HW.out h256 rfl h1 h2 h3
  go_wp2_with fail
  go_at_call 261
  refine (HX.out _ rfl _).mono ?_
  rintro e w3 ⟨A3,c3,us,rfl,h4,h5,hb_w3⟩
  have hs3:=hb_w3.size
  go_wp2
  go_ret2
  exact ⟨A3,c3,us,rfl,h4,h5.mono lX,bX⟩
 ·have C:=Lib.hid fun (w:World) hr=>scheck_any (w:=w) (A:=A) (l:=l) cap hr hl 0 (.inl ⟨h,rfl⟩)
  have HI:=Lib.hid hI
  have HW:=Lib.hid h.words
  have h256:=h.1
  have hil:=hI.lt
  clear h hI
  go_enter Tryz.func243,Tryz.ntmps243
  go_wp2_with fail
  go_at_call 217
  refine (C.out _ (hr.later bX)).mono ?_
  rintro e w1 ⟨rfl,hb_w1⟩
  obtain ⟨hc_w1,hf_w1⟩:=bcell hb_w1;have hz_w1_w_0:w.heap.size < w1.heap.size:=lY hb_w1.size;have hs_w1:=hb_w1.size;(try simp only [zZ] at hs_w1)
  have ka:w1.cell? ⟨w.heap.size,0,none⟩=some (.int .i64 first):=(hc_w1 _ _ lX).trans (by simp [go_sem])
  go_wp2_with fail
  go_at_call 188
  refine (sindex_any cap 268 _ (fun d=>d.f == first) eg_drop1 (hr.later bX) hl (says_drop1 first _ ka) (i:Nat) HI.out).mono ?_
  rintro e w2 ⟨rfl,hb_w2⟩
  obtain ⟨hc_w2,hf_w2⟩:=bcell hb_w2;have hz_w2_w_0:w.heap.size < w2.heap.size:=lY hb_w2.size;have hs_w2:=hb_w2.size;(try simp only [zZ] at hs_w2)
  have b2:Below w.heap.size w w2:=bX
  have ka2:w2.cell? ⟨w.heap.size,0,none⟩=some (.int .i64 first):=(hb_w2.cell lX).trans ka
  obtain ⟨b,off,rfl,hbb,_⟩:=(hr.later b2).at_ (by omega)
  obtain ⟨vs,h1,h2,h3⟩:=(hr.later b2).vals
  have hvl:=sds_len h1
  have hi0:decide ((i:Int) < 0)=false:=decide_eq_false (by omega)
  have i1:(0:Int) ≤ (i:Int):=by omega
  have i2:(i:Int) ≤ (cap:Int):=by omega
  have i3:(i:Int) + 1 ≤ (l.length:Int):=by omega
  have i4:(l.length:Int) ≤ (cap:Int):=by omega
  have i5:(0:Int) ≤ (i:Int) + 1:=by omega
  have i6:IntKind.i64.wrap ((i:Int) + 1)=(i:Int) + 1:=by rw [IntWalk.i64_in _ (by omega)]
  have i7:((i:Int) + 1).toNat=i + 1:=by omega
  have hlen:r.length=l.length - 1:=by rw [hre,List.length_append,List.length_take,List.length_drop];omega
  have HP:Hid (∀ (W:World) (g:Nat),Below w2.heap.size w2 W → PRow W (some ⟨g,0,none⟩) [vs.take i,vs.drop (i + 1)] → Calls Tryz.prog 261 #[.slice (some ⟨g,0,none⟩) 2 2] W fun e w'=>∃ A' c' us,e=.returned (.slice A' r.length c')∧sdsOf us=r∧OwnsS w' W.heap.size A' r.length c' us∧Below W.heap.size W w'):=Lib.hid fun W g hb hp=>by
   have h:=scopies_any (w:=W) (P:=some ⟨g,0,none⟩) (ps:=[vs.take i,vs.drop (i + 1)]) 2 hp (by simp) (by simp only [List.flatten_cons,List.flatten_nil,List.append_nil,List.length_append,List.length_take,List.length_drop];omega) (fun v hv'=>by
    have hm:v ∈ vs:=by
     simp only [List.flatten_cons,List.flatten_nil,List.append_nil,List.mem_append] at hv'
     rcases hv' with hv' | hv'
     ·exact List.mem_of_mem_take hv'
     ·exact List.mem_of_mem_drop hv'
    obtain ⟨r1,r2⟩:=(h3.later hb) v hm
    have hd:v.d ∈ l:=by rw [← h1];exact List.mem_map.2 ⟨v,hm,rfl⟩
    exact ⟨r1,r2,(HW.out _ hd).1,(HW.out _ hd).2⟩) r.length (by rw [hlen];simp only [List.flatten_cons,List.flatten_nil,List.append_nil,List.length_append,List.length_take,List.length_drop];omega) 2 rfl
   refine h.mono ?_
   rintro e w' ⟨A',c',us,rfl,g1,g2,g3⟩
   exact ⟨A',c',us,rfl,by rw [g1,hre];simp only [List.flatten_cons,List.flatten_nil,List.append_nil];rw [sds_app,sds_take,sds_drop,h1],g2,g3⟩
  have HQ:Hid (∀ (A2:Option Addr) (n2 c1 c2:Nat) (t:TypeId),VRow w2 A2 (vs.drop (i + 1)) → l.length - (i + 1)=n2 → PRow ((w2.alloc (.cells #[.slice (some ⟨b,off,none⟩) i c1,.slice A2 n2 c2] t)).drew) (some ⟨w2.heap.size,0,none⟩) [vs.take i,vs.drop (i + 1)]):=Lib.hid fun A2 n2 c1 c2 t hd he=>
   (prow2 w2.heap.size rfl (h2.take i) hd (by rw [List.length_take];omega) (by rw [List.length_drop];omega)).later (Below.drew (Below.refl _ _))
  have HD1:=Lib.hid (h2.drop (i + 1))
  have HD2:Hid (l.length=i + 1 → ∀ A2,VRow w2 A2 (vs.drop (i + 1))):=Lib.hid fun e A2 hl=>by
   rw [List.length_drop] at hl
   omega
  clear h1 h2 h3 hvl hlen hre HW C HI hr
  by_cases hcap:cap=i + 1
  ·subst hcap
   have HD:=Lib.hid (HD2.out (by omega) (some ⟨b,off,none⟩))
   have HE:Hid (l.length - (i + 1)=0):=Lib.hid (by omega)
   have i9:(i:Int) ≤ (i:Int) + 1:=by omega
   clear HD1 HD2
   go_wp2_with fail
   go_region_held3 (fun X:World=>X.cell? ⟨w.heap.size,0,none⟩=some (.int .i64 first))
    (first | assumption | exact (World.cell?_alloc_lt _ _ ⟨_,_,_⟩ lX).trans (by assumption) | (simp [go_sem];done))
    ((go_at_call 261;refine (HP.out _ _ bX (HQ.out _ _ _ _ _ HD.out HE.out)).mono ?_;rintro e w3 ⟨A3,c3,us,rfl,h4,h5,hb_w3⟩;have hs3:=hb_w3.size;have k3:w3.cell? ⟨w.heap.size,0,none⟩=some (.int .i64 first):=cX hb_w3))
   all_goals
    go_wp2
    go_ret2
    exact ⟨A3,c3,us,rfl,h4,h5.mono lX,bX⟩
  ·clear HD2
   go_wp2_with fail
   go_region_held3 (fun X:World=>X.cell? ⟨w.heap.size,0,none⟩=some (.int .i64 first))
    (first | assumption | exact (World.cell?_alloc_lt _ _ ⟨_,_,_⟩ lX).trans (by assumption) | (simp [go_sem];done))
    ((go_at_call 261;refine (HP.out _ _ bX (HQ.out _ _ _ _ _ HD1.out rfl)).mono ?_;rintro e w3 ⟨A3,c3,us,rfl,h4,h5,hb_w3⟩;have hs3:=hb_w3.size;have k3:w3.cell? ⟨w.heap.size,0,none⟩=some (.int .i64 first):=cX hb_w3))
   all_goals
    go_wp2
    go_ret2
    exact ⟨A3,c3,us,rfl,h4,h5.mono lX,bX⟩
end
theorem own_empty8 (w w':World) (B:Nat) (hB:B ≤ w.heap.size) (h:w'.heap=(w.alloc (.cells #[] 72)).heap):w'.ownsRow B 72 8 (.slice (some ⟨w.heap.size,0,none⟩) 0 0) 0 []:=
 ⟨rfl,.inr ⟨w.heap.size,0,#[],rfl,hB,by rw [h];exact heap_alloc_new _ _,Nat.le_refl _,Nat.zero_le _,rfl,rfl⟩⟩
theorem sclone_any {w:World} {A:Option Addr} (cap n:Nat) (vs:List Sv) (hr:VRow w A vs) (hn:vs.length=n) (hm:n ≤ 1000) (hnil:A=none → cap=0) :
  Calls Tryz.prog 212 #[.slice A n cap] w fun e w'=>∃ A' c',e=.returned (.slice A' n c')∧w'.ownsRow w.heap.size 72 8 (.slice A' n c') n (flat8 vs)∧Below w.heap.size w w':=by
 have q22:∀ (w:World) (a:Option Addr) (n c n' c':Nat),(binOp .eql 29 (.slice a n c) (.slice none n' c')).run Tryz.prog w=.ok (.bool a.isNone) w:=fun w a n c n' c'=>Lib.run_eql_slice_nil w _ _ a n c n' c' Tryz.underlying29
 by_cases h0:0 < n
 ·obtain ⟨b,off,rfl,hbb,hc⟩:=hr (by omega)
  have hcc:∀ j u,(flat8 vs)[j]?=some u → (w.alloc (.cells #[] 72)).cell? ⟨b,off + j,none⟩=some u:=fun j u hj=>(World.cell?_alloc_lt _ _ ⟨_,_,_⟩ hbb).trans (hc j u hj)
  have HC:=Lib.hid hcc
  clear hc hcc
  go_enter Tryz.func212,Tryz.ntmps212
  go_wp2_with (at_builtin;refine wpList_append8 ?_ (.tmp 5) (.tmp 6) ?_ w.heap.size (some ⟨w.heap.size,0,none⟩) 0 0 [] ?_ (own_empty8 w _ _ (Nat.le_refl _) rfl) (some ⟨b,off,none⟩) n cap (flat8 vs) ?_ (by rw [flat8_len,hn]) (fun _=>⟨b,off,rfl,HC.out⟩) (flat8_one vs) (by omega) (by simp) ?_;rfl;rfl;rfl;rfl;intro A7 cap7 w7 hown7 hg7 hb_w7 hat7;have hs7:=hb_w7.size)
  go_ret
  simp only [Nat.zero_add,List.nil_append] at hown7 ⊢
  exact ⟨A7,cap7,rfl,hown7,bX⟩
 ·obtain rfl:n=0:=by omega
  obtain rfl:vs=[]:=List.eq_nil_of_length_eq_zero hn
  cases A with
  | none=>
   obtain rfl:=hnil rfl
   go_enter Tryz.func212,Tryz.ntmps212
   go_wp2
   go_ret
   exact ⟨none,0,rfl,World.ownsRow_nil _ _ _ _,bX⟩
  | some a=>
   have ho:=own_empty8 w (w.alloc (.cells #[] 72)) w.heap.size (Nat.le_refl _) rfl
   go_enter Tryz.func212,Tryz.ntmps212
   go_wp2
   go_ret
   exact ⟨_,0,rfl,ho,bX⟩
structure B4 (w:World) (b:Nat) (v0 v1 v2 v3:Value):Prop where
 c0:w.cell? ⟨b,0,none⟩=some v0
 c1:w.cell? ⟨b,1,none⟩=some v1
 c2:w.cell? ⟨b,2,none⟩=some v2
 c3:w.cell? ⟨b,3,none⟩=some v3
 f0:w.frozen? ⟨b,0,none⟩=false
 f1:w.frozen? ⟨b,1,none⟩=false
 f2:w.frozen? ⟨b,2,none⟩=false
 f3:w.frozen? ⟨b,3,none⟩=false
section
variable {w w':World} {b:Nat} {v0 v1 v2 v3:Value}
theorem B4.lt (h:B4 w b v0 v1 v2 v3):b < w.heap.size:=World.block_lt_of_cell? w _ h.c0
theorem B4.below {B:Nat} (h:B4 w b v0 v1 v2 v3) (hb:Below B w w') (hB:b < B):B4 w' b v0 v1 v2 v3:=
 ⟨((bcell hb).1 _ _ hB).trans h.c0,((bcell hb).1 _ _ hB).trans h.c1,((bcell hb).1 _ _ hB).trans h.c2,((bcell hb).1 _ _ hB).trans h.c3,((bcell hb).2 _ _ hB).trans h.f0,((bcell hb).2 _ _ hB).trans h.f1,((bcell hb).2 _ _ hB).trans h.f2,((bcell hb).2 _ _ hB).trans h.f3⟩
theorem B4.later (h:B4 w b v0 v1 v2 v3) (hb:Below w.heap.size w w'):B4 w' b v0 v1 v2 v3:=h.below hb h.lt
theorem B4.far (h:B4 w b v0 v1 v2 v3) {p:Addr} (hp:p.block ≠ b) (u:Value):B4 (w.setCell p u) b v0 v1 v2 v3:=
 ⟨(cO _ p ⟨b,0,none⟩ _ (fun e=>hp (by rw [e]))).trans h.c0,(cO _ p ⟨b,1,none⟩ _ (fun e=>hp (by rw [e]))).trans h.c1,(cO _ p ⟨b,2,none⟩ _ (fun e=>hp (by rw [e]))).trans h.c2,(cO _ p ⟨b,3,none⟩ _ (fun e=>hp (by rw [e]))).trans h.c3,(World.frozen?_setCell _ _ _ _).trans h.f0,(World.frozen?_setCell _ _ _ _).trans h.f1,(World.frozen?_setCell _ _ _ _).trans h.f2,(World.frozen?_setCell _ _ _ _).trans h.f3⟩
theorem B4.set0 (h:B4 w b v0 v1 v2 v3) (u:Value):B4 (w.setCell ⟨b,0,none⟩ u) b u v1 v2 v3:=
 ⟨World.cell?_setCell_same _ _ _ h.c0,(cO _ ⟨b,0,none⟩ ⟨b,1,none⟩ _ (by simp)).trans h.c1,(cO _ ⟨b,0,none⟩ ⟨b,2,none⟩ _ (by simp)).trans h.c2,(cO _ ⟨b,0,none⟩ ⟨b,3,none⟩ _ (by simp)).trans h.c3,(World.frozen?_setCell _ _ _ _).trans h.f0,(World.frozen?_setCell _ _ _ _).trans h.f1,(World.frozen?_setCell _ _ _ _).trans h.f2,(World.frozen?_setCell _ _ _ _).trans h.f3⟩
theorem B4.set1 (h:B4 w b v0 v1 v2 v3) (u:Value):B4 (w.setCell ⟨b,1,none⟩ u) b v0 u v2 v3:=
 ⟨(cO _ ⟨b,1,none⟩ ⟨b,0,none⟩ _ (by simp)).trans h.c0,World.cell?_setCell_same _ _ _ h.c1,(cO _ ⟨b,1,none⟩ ⟨b,2,none⟩ _ (by simp)).trans h.c2,(cO _ ⟨b,1,none⟩ ⟨b,3,none⟩ _ (by simp)).trans h.c3,(World.frozen?_setCell _ _ _ _).trans h.f0,(World.frozen?_setCell _ _ _ _).trans h.f1,(World.frozen?_setCell _ _ _ _).trans h.f2,(World.frozen?_setCell _ _ _ _).trans h.f3⟩
theorem B4.set2 (h:B4 w b v0 v1 v2 v3) (u:Value):B4 (w.setCell ⟨b,2,none⟩ u) b v0 v1 u v3:=
 ⟨(cO _ ⟨b,2,none⟩ ⟨b,0,none⟩ _ (by simp)).trans h.c0,(cO _ ⟨b,2,none⟩ ⟨b,1,none⟩ _ (by simp)).trans h.c1,World.cell?_setCell_same _ _ _ h.c2,(cO _ ⟨b,2,none⟩ ⟨b,3,none⟩ _ (by simp)).trans h.c3,(World.frozen?_setCell _ _ _ _).trans h.f0,(World.frozen?_setCell _ _ _ _).trans h.f1,(World.frozen?_setCell _ _ _ _).trans h.f2,(World.frozen?_setCell _ _ _ _).trans h.f3⟩
theorem B4.set3 (h:B4 w b v0 v1 v2 v3) (u:Value):B4 (w.setCell ⟨b,3,none⟩ u) b v0 v1 v2 u:=
 ⟨(cO _ ⟨b,3,none⟩ ⟨b,0,none⟩ _ (by simp)).trans h.c0,(cO _ ⟨b,3,none⟩ ⟨b,1,none⟩ _ (by simp)).trans h.c1,(cO _ ⟨b,3,none⟩ ⟨b,2,none⟩ _ (by simp)).trans h.c2,World.cell?_setCell_same _ _ _ h.c3,(World.frozen?_setCell _ _ _ _).trans h.f0,(World.frozen?_setCell _ _ _ _).trans h.f1,(World.frozen?_setCell _ _ _ _).trans h.f2,(World.frozen?_setCell _ _ _ _).trans h.f3⟩
theorem B4.hb {A:Option Addr} {na ca:Nat} {n:Int} {U:Option Addr} {nu cu:Nat} {V:Option Addr} {nv cv:Nat} (h:B4 w b (.slice A na ca) (.int .i64 n) (.slice U nu cu) (.slice V nv cv)):Hb w b A na ca n U nu cu V nv cv:=⟨h.c0,h.c1,h.c2,h.c3⟩
end
theorem B4.new (w:World) (v0 v1 v2 v3:Value) (t:TypeId):B4 (w.alloc (.cells #[v0,v1,v2,v3] t)) w.heap.size v0 v1 v2 v3:=by constructor <;> simp [go_sem]
structure OwnsH (w:World) (B:Nat) (v:Hv) (h:Hp):Prop where
 a:Own w B v.A h.ws
 u:Own w B v.U h.us
 s:∃ vs,sdsOf vs=h.l∧OwnsS w B v.V h.l.length v.cv vs
theorem OwnsH.hm {w:World} {B:Nat} {v:Hv} {h:Hp} (o:OwnsH w B v h):HM w w.heap.size v h:=by
 obtain ⟨vs,e,hs⟩:=o.s
 exact ⟨o.a.row,o.u.row,by rw [← e];exact hs.srow⟩
theorem OwnsH.later {w w':World} {B:Nat} {v:Hv} {h:Hp} (o:OwnsH w B v h) (hb:Below w.heap.size w w'):OwnsH w' B v h:=by
 obtain ⟨vs,e,hs⟩:=o.s
 exact ⟨o.a.later hb,o.u.later hb,vs,e,hs.later hb⟩
theorem OwnsH.mono {w:World} {B B':Nat} {v:Hv} {h:Hp} (o:OwnsH w B v h) (hB:B' ≤ B):OwnsH w B' v h:=by
 obtain ⟨vs,e,hs⟩:=o.s
 exact ⟨o.a.mono hB,o.u.mono hB,vs,e,hs.mono hB⟩
theorem Own.belowC {w w' W0:World} {B B0:Nat} {A:Option Addr} {ws:List Nat} (h:Own w B A ws) (h0:Own W0 B0 A ws) (hb:Below W0.heap.size w w'):Own w' B A ws:=
 ⟨h.words,fun hl=>by
  obtain ⟨g,e,h1,h2,h3⟩:=h.at_ hl
  obtain ⟨g',e',_,h2',_⟩:=h0.at_ hl
  rw [e] at e'
  injection e' with e'
  injection e' with e'
  subst e'
  exact ⟨g,e,h1,Nat.lt_of_lt_of_le h2 hb.size,fun i hi=>⟨((bcell hb).1 _ _ h2').trans (h3 i hi).1,((bcell hb).2 _ _ h2').trans (h3 i hi).2⟩⟩⟩
theorem grown_setp (W:World) (p:Addr) (u:Value):W.grownBy (W.setCell p u) (some p.block):=⟨rfl,rfl,rfl,(KeepsWalks.setCell W _ u).size,fun k _ hk=>Below.heap_setCell _ _ _ k (fun e=>hk (by rw [e]))⟩
theorem ownsRow_far {w:World} {B s n m cap:Nat} {t:TypeId} {A:Option Addr} {xs:List Value} (h:w.ownsRow B t s (.slice A m cap) n xs) {p:Addr} (hp:p.block < B) (u:Value):(w.setCell p u).ownsRow B t s (.slice A m cap) n xs:=
 h.kept (grown_setp w p u) (.inr (by
  intro e
  obtain ⟨_,⟨e1,_⟩ | ⟨q,_,_,e1,e2,_⟩⟩:=id h
  ·injection e1 with e1;subst e1;cases e
  ·injection e1 with e1;subst e1;simp [Value.ownBlock] at e;omega))
theorem OwnsS.far {w:World} {B n cap:Nat} {A:Option Addr} {vs:List Sv} (h:OwnsS w B A n cap vs) {p:Addr} (hp:p.block < B) (u:Value):OwnsS (w.setCell p u) B A n cap vs:=
 ⟨h.len,ownsRow_far h.row_ hp u,fun v hv=>⟨(h.words v hv).1.far (.inl hp) u,(h.words v hv).2.far (.inl hp) u⟩,h.apart⟩
theorem OwnsH.far {w:World} {B:Nat} {v:Hv} {h:Hp} (o:OwnsH w B v h) {p:Addr} (hp:p.block < B) (u:Value):OwnsH (w.setCell p u) B v h:=by
 obtain ⟨vs,e,hs⟩:=o.s
 exact ⟨o.a.far (.inl hp) u,o.u.far (.inl hp) u,vs,e,hs.far hp u⟩
def hp0:Hp:=⟨[],0,[],[]⟩
def hv0:Hv:=⟨none,0,none,0,none,0⟩
theorem OwnsH.zero (w:World) (B:Nat):OwnsH w B hv0 hp0:=⟨⟨fun x hx=>(by cases hx),fun h=>(by cases h)⟩,⟨fun x hx=>(by cases hx),fun h=>(by cases h)⟩,[],rfl,OwnsS.nil _ _⟩
theorem res_hp1 {fn:Func} {p:Tmp} (h:fn.results=#[.cell p 31]) {tmps:Array Value} {w:World} {g:Nat} {v0 v1 v2 v3:Value} (hp:tmps.getD p undef=.pointer (some ⟨g,0,none⟩))
  (h0:w.cell? ⟨g,0,none⟩=some v0) (h1:w.cell? ⟨g,1,none⟩=some v1) (h2:w.cell? ⟨g,2,none⟩=some v2) (h3:w.cell? ⟨g,3,none⟩=some v3) :
  (results fn tmps).run Tryz.prog w=.ok (.agg #[v0,v1,v2,v3]) w:=by
 have hp2:tmps[p]?.getD undef=.pointer (some ⟨g,0,none⟩):=by rw [← hp];simp
 simp only [results,h]
 simp [go_sem,Result.andThen,h0,h1,h2,h3,asAddr,hp2]
theorem res_hp1w {fn:Func} {p:Tmp} (h:fn.results=#[.cell p 112]) {tmps:Array Value} {w:World} {g:Nat} {v0 v1 v2 v3:Value} (hp:tmps.getD p undef=.pointer (some ⟨g,0,none⟩))
  (h0:w.cell? ⟨g,0,none⟩=some v0) (h1:w.cell? ⟨g,1,none⟩=some v1) (h2:w.cell? ⟨g,2,none⟩=some v2) (h3:w.cell? ⟨g,3,none⟩=some v3) :
  (results fn tmps).run Tryz.prog w=.ok (.agg #[v0,v1,v2,v3]) w:=by
 have hp2:tmps[p]?.getD undef=.pointer (some ⟨g,0,none⟩):=by rw [← hp];simp
 simp only [results,h]
 simp [go_sem,Result.andThen,h0,h1,h2,h3,asAddr,hp2]
set_option maxHeartbeats 8000000 in
theorem zheap_any {w:World} {v:Hv} {h:Hp} (hM:HM w w.heap.size v h) (hF:Framed h) (hnil:v.V=none → v.cv=0) :
  Calls Tryz.prog 144 #[hpV v h] w fun e w'=>∃ v',e=.returned (hpV v' h)∧OwnsH w' w.heap.size v' h∧Below w.heap.size w w':=by
 obtain ⟨vs0,hvs,hvr,hrs⟩:=hM.v.vals
 have hl256:=hF.spans.1
 have hww:=hF.words
 have hlen0:vs0.length=h.l.length:=sds_len hvs
 have hA0:v.A=none → v.ca=0:=fun e=>by
  have:=hF.long
  have:=hF.some_
  obtain ⟨b,off,e2,_⟩:=hM.a.at_ (by omega)
  rw [e] at e2;cases e2
 have hU0:v.U=none → v.cu=0:=fun e=>by
  have h1:=hF.pages.2.2.1
  have h2:=hF.some_
  obtain ⟨b,off,e2,_⟩:=hM.u.at_ (by omega)
  rw [e] at e2;cases e2
 have hul:h.us.length ≤ 17592186044416:=by have h1:=hF.pages.2.2.1;have h2:=hF.pages.2.1;omega
 have HW:Hid (∀ x ∈ vs0,x.d.aw.length=1∧x.d.mw.length=1):=Lib.hid (fun x hx=>by
  have:x.d ∈ h.l:=by rw [← hvs];exact List.mem_map.2 ⟨x,hx,rfl⟩
  exact hF.spans.words _ this)
 have HCA:=Lib.hid fun (w:World) (hr:Row w w.heap.size v.A h.ws)=>wclone_any (w:=w) (A:=v.A) (t:=h.ws) v.ca hr (by omega) hA0
 have HCU:=Lib.hid fun (w:World) (hr:Row w w.heap.size v.U h.us)=>wclone_any (w:=w) (A:=v.U) (t:=h.us) v.cu hr hul hU0
 have HCS:=Lib.hid fun (w:World) (hr:VRow w v.V vs0)=>sclone_any (w:=w) (A:=v.V) v.cv h.l.length vs0 hr hlen0 (by omega) hnil
 have HVS:=Lib.hid hvs
 have HLN:=Lib.hid hlen0
 have HRS:=Lib.hid hrs
 have HL:=Lib.hid hl256
 have HMA:=Lib.hid hM.a
 have HMU:=Lib.hid hM.u
 have HVR:=Lib.hid hvr
 clear hF hM hvs hrs hvr hA0 hU0 hul hww hnil hlen0
 unfold CopiedN at HCA HCU
 unfold hpV hpv
 go_enter Tryz.func144,Tryz.ntmps144
 go_wp2_with fail
 go_at_call 205
 refine (HCA.out _ (HMA.out.later bX)).mono ?_
 rintro e w1 ⟨A1,c1,rfl,oA,hb_w1⟩
 obtain ⟨hc_w1,hf_w1⟩:=bcell hb_w1;have hz_w1_w_0:w.heap.size < w1.heap.size:=lY hb_w1.size;have hz_w1_w_1:w.heap.size + 1 < w1.heap.size:=lY hb_w1.size;have hs_w1:=hb_w1.size;(try simp only [zZ] at hs_w1)
 have hB0:B4 (w.alloc (.cells #[.slice v.A h.ws.length v.ca,.int .i64 h.n,.slice v.U h.us.length v.cu,.slice v.V h.l.length v.cv] 31)) w.heap.size _ _ _ _:=B4.new _ _ _ _ _ _
 have hBx:=((hB0.later (Below.alloc (Below.refl _ _) (Nat.le_refl _) (.cells #[.slice none 0 0,.int .i64 0,.slice none 0 0,.slice none 0 0] 31))).later hb_w1)
 have hR0:=(B4.new (w.alloc (.cells #[.slice v.A h.ws.length v.ca,.int .i64 h.n,.slice v.U h.us.length v.cu,.slice v.V h.l.length v.cv] 31)) (.slice none 0 0) (.int .i64 0) (.slice none 0 0) (.slice none 0 0) 31).later hb_w1
 simp only [zA] at oA hR0
 have hbA:Below w.heap.size w w1:=bX
 have hs1:=hR0.lt
 obtain ⟨b0,b1,b2,b3,f0,f1,f2,f3⟩:=id hBx
 clear hc_w1 hf_w1 hB0
 have oA2:=oA.own.far (p:=⟨w.heap.size,0,none⟩) (.inl (by show w.heap.size < w.heap.size + 1 + 1;omega)) (.slice A1 h.ws.length c1)
 have hBx2:=hBx.set0 (.slice A1 h.ws.length c1)
 have hR2:=hR0.far (p:=⟨w.heap.size,0,none⟩) (by show w.heap.size ≠ w.heap.size + 1;omega) (.slice A1 h.ws.length c1)
 have hb2:Below w.heap.size w (w1.setCell ⟨w.heap.size,0,none⟩ (.slice A1 h.ws.length c1)):=hbA.setCell (p:=⟨w.heap.size,0,none⟩) (Nat.le_refl _) _
 go_wp2_with fail
 clear b0 b1 b2 b3 f0 f1 f2 f3 hb_w1 hBx hR0 hbA hs1 hs_w1 hz_w1_w_0 hz_w1_w_1 oA
 generalize w1.setCell ⟨w.heap.size,0,none⟩ (.slice A1 h.ws.length c1)=wa at *
 have hza:=hR2.lt
 go_at_call 205
 refine (HCU.out _ (HMU.out.later hb2)).mono ?_
 rintro e w2 ⟨U1,cu1,rfl,oU,hb_w2⟩
 have oA3:=oA2.later hb_w2
 have hBx3:=hBx2.later hb_w2
 have hR3:=hR2.later hb_w2
 have hb3:Below w.heap.size w w2:=hb2.trans (hb_w2.mono hb2.size)
 clear oA2 hBx2 hR2 hb2
 have oA4:=oA3.far (p:=⟨w.heap.size,2,none⟩) (.inl (by show w.heap.size < w.heap.size + 1 + 1;omega)) (.slice U1 h.us.length cu1)
 have oU4:=oU.own.far (p:=⟨w.heap.size,2,none⟩) (.inl (by show w.heap.size < wa.heap.size;omega)) (.slice U1 h.us.length cu1)
 have hBx4:=hBx3.set2 (.slice U1 h.us.length cu1)
 have hR4:=hR3.far (p:=⟨w.heap.size,2,none⟩) (by show w.heap.size ≠ w.heap.size + 1;omega) (.slice U1 h.us.length cu1)
 have hb4:Below w.heap.size w (w2.setCell ⟨w.heap.size,2,none⟩ (.slice U1 h.us.length cu1)):=hb3.setCell (p:=⟨w.heap.size,2,none⟩) (Nat.le_refl _) _
 obtain ⟨b0,b1,b2,b3,f0,f1,f2,f3⟩:=id hBx3
 go_wp2_with fail
 clear b0 b1 b2 b3 f0 f1 f2 f3 hb_w2 hBx3 hR3 hb3 oA3 oU
 generalize w2.setCell ⟨w.heap.size,2,none⟩ (.slice U1 h.us.length cu1)=wb at *
 have hzb:=hR4.lt
 have hwb:=hb4.size
 have HA4:=Lib.hid oA4
 have HU4:=Lib.hid oU4
 go_at_call 212
 refine (HCS.out _ (HVR.out.later hb4)).mono ?_
 rintro e w3 ⟨S1,cs1,rfl,oS,hb_w3⟩
 have oA5:=oA4.later hb_w3
 have oU5:=(oU4.mono (B':=w.heap.size + 1 + 1) (by omega)).later hb_w3
 have hBx5:=hBx4.later hb_w3
 have hR5:=hR4.later hb_w3
 have hb5:Below w.heap.size w w3:=hb4.trans (hb_w3.mono hb4.size)
 have oA6:=oA5.far (p:=⟨w.heap.size,3,none⟩) (.inl (by show w.heap.size < w.heap.size + 1 + 1;omega)) (.slice S1 h.l.length cs1)
 have oU6:=oU5.far (p:=⟨w.heap.size,3,none⟩) (.inl (by show w.heap.size < w.heap.size + 1 + 1;omega)) (.slice S1 h.l.length cs1)
 have hBx6:=hBx5.set3 (.slice S1 h.l.length cs1)
 have hR6:=hR5.far (p:=⟨w.heap.size,3,none⟩) (by show w.heap.size ≠ w.heap.size + 1;omega) (.slice S1 h.l.length cs1)
 have hb6:Below w.heap.size w (w3.setCell ⟨w.heap.size,3,none⟩ (.slice S1 h.l.length cs1)):=hb5.setCell (p:=⟨w.heap.size,3,none⟩) (Nat.le_refl _) _
 have hs36:=hb_w3.size
 have oS6:(w3.setCell ⟨w.heap.size,3,none⟩ (.slice S1 h.l.length cs1)).ownsRow wb.heap.size 72 8 (.slice S1 h.l.length cs1) h.l.length (flat8 vs0):=oS.kept (grown_setg _ _ _ _) (.inr (by
  intro e
  obtain ⟨_,⟨e1,_⟩ | ⟨q,_,_,e1,e2,_⟩⟩:=id oS
  ·injection e1 with e1;subst e1;cases e
  ·injection e1 with e1;subst e1;simp [Value.ownBlock] at e;omega))
 obtain ⟨b0,b1,b2,b3,f0,f1,f2,f3⟩:=id hBx5
 go_wp2_with fail
 clear b0 b1 b2 b3 f0 f1 f2 f3 hb_w3 hBx5 hR5 hb5 oA5 oU5 hBx4 hR4 hb4 oA4 oU4 oS
 have hs6:wb.heap.size ≤ (w3.setCell ⟨w.heap.size,3,none⟩ (.slice S1 h.l.length cs1)).heap.size:=by rw [World.size_setCell];exact hs36
 obtain ⟨n,hn⟩:∃ n,h.l.length=n:=⟨_,rfl⟩
 generalize w3.setCell ⟨w.heap.size,3,none⟩ (.slice S1 h.l.length cs1)=wS at *
 rw [hn] at HL HLN hBx6 oS6 ⊢
 have hn6:n ≤ 256:=HL.out
 have HN:=Lib.hid hn
 clear hn
 have hR7:=Lib.hid hR6
 have hBx7:=Lib.hid hBx6
 clear hR6
 obtain ⟨b0,b1,b2,b3,f0,f1,f2,f3⟩:=hBx6
 by_cases h0:n=0
 ·subst h0
  have hv:vs0=[]:=List.eq_nil_of_length_eq_zero HLN.out
  subst hv
  go_wp2_with fail
  clear b0 b1 b2 b3 f0 f1 f2 f3
  go_loopw [26] (fun ii wr=>ii=.int .i64 0∧wr=wS) (fun ii _=>0 - (intOf ii).toNat)
  case atStart=>exact ⟨rfl,rfl⟩
  case round=>
   obtain ⟨rfl,rfl⟩:=hrel
   obtain ⟨b0,b1,b2,b3,f0,f1,f2,f3⟩:=hBx7.out
   obtain ⟨r0,r1,r2,r3,t0,t1,t2,t3⟩:=hR7.out
   go_wp2
   have hF:=(((hR7.out.set0 (.slice A1 h.ws.length c1)).set1 (.int .i64 h.n)).set2 (.slice U1 h.us.length cu1)).set3 (.slice S1 0 cs1)
   refine bodyPost_ret (res_hp1 rfl rfl hF.c0 hF.c1 hF.c2 hF.c3) rfl ?_
   refine ⟨⟨A1,c1,U1,cu1,S1,cs1⟩,by rw [HN.out],?_,?_⟩
   ·have hO:OwnsH wr (w.heap.size + 1 + 1) ⟨A1,c1,U1,cu1,S1,cs1⟩ h:=⟨oA6,oU6,[],HVS.out,by rw [HN.out];exact (⟨rfl,oS6,fun v hv=>(by cases hv),fun v hv=>(by cases hv)⟩:OwnsS wr wb.heap.size S1 0 cs1 []).mono (by omega)⟩
    exact (((((hO.far (p:=⟨w.heap.size + 1,0,none⟩) (Nat.lt_succ_self _) _).far (p:=⟨w.heap.size + 1,1,none⟩) (Nat.lt_succ_self _) _).far (p:=⟨w.heap.size + 1,2,none⟩) (Nat.lt_succ_self _) _).far (p:=⟨w.heap.size + 1,3,none⟩) (Nat.lt_succ_self _) _)).mono (by omega)
   ·iterate 4 (refine Below.setCell ?_ (by show _ ≤ w.heap.size + 1;omega) _)
    exact hb6
 ·obtain ⟨_,⟨h1,h2⟩ | ⟨g,cap',cur,e,hgB,_⟩⟩:=id oS6
  ·exact absurd h2 h0
  ·injection e with e1 _ e3
   subst e1 e3
   have hgl:g < wS.heap.size:=(oS6.lt g rfl).2
   have HB0:=Lib.hid hgB
   go_wp2_with fail
   clear b0 b1 b2 b3 f0 f1 f2 f3
   go_loopw [26] (fun ii wr=>∃ k:Nat,ii=.int .i64 (k:Nat)∧k ≤ n∧∃ vs:List Sv,CopK wr wb.heap.size g n cs1 vs0 vs k∧g < wr.heap.size∧Below wb.heap.size wS wr) (fun ii _=>n - (intOf ii).toNat)
   case atStart=>exact ⟨0,rfl,Nat.zero_le _,vs0,⟨HLN.out,rfl,fun j hj _=>List.getElem?_eq_getElem hj,oS6,fun j hj hj0=>by omega⟩,hgl,Below.refl _ _⟩
   case round=>
    clear oS6 hgl
    obtain ⟨k,rfl,hk,vs,hK,hgl,hbS⟩:=hrel
    have hsS:=hbS.size
    have hbw:Below w.heap.size w wr:=hb6.trans (hbS.mono hwb)
    have hswr:w.heap.size ≤ wr.heap.size:=hbw.size
    obtain ⟨b0,b1,b2,b3,f0,f1,f2,f3⟩:=hBx7.out.below hbS (by omega)
    by_cases hlt:k < n
    ·have hkl:k < vs.length:=by rw [hK.len];exact hlt
     have hrest:=hK.rest k hkl (Nat.le_refl _)
     have hmem:vs[k] ∈ vs0:=List.mem_of_getElem? hrest
     obtain ⟨la,lm⟩:=HW.out _ hmem
     obtain ⟨ra,rm⟩:=HRS.out _ hmem
     have c8:=sp8_of_owns hK.row_ hK.len k hlt
     obtain ⟨xa,hxa⟩:=len_one la
     obtain ⟨xm,hxm⟩:=len_one lm
     have q4:=c8.c4
     have q6:=c8.c6
     rw [la,Nat.zero_add] at q4
     rw [lm,Nat.zero_add] at q6
     rw [hxa] at ra
     rw [hxm] at rm
     have fz:=fun i=>hK.row_.frozenAt i
     have g4:=fz (k * 8 + 4)
     have g6:=fz (k * 8 + 6)
     have HK:=Lib.hid hK
     obtain ⟨x,HV⟩:∃ x,Hid (vs[k]=x):=⟨vs[k],Lib.hid rfl⟩
     rw [HV.out] at ra rm q4 q6 hxa hxm
     have HXA:=Lib.hid hxa
     have HXM:=Lib.hid hxm
     have ra:=ra.later hbw
     clear hK fz c8 hmem hrest la lm hxa hxm
     obtain ⟨d,A,ca,M,cm⟩:=x
     simp only at *
     have i1:(k:Int) < (n:Int):=by omega
     have i2:(0:Int) ≤ (k:Int):=by omega
     go_wp2_with fail
     go_at_call 205
     refine (wclone1 ra).mono ?_
     rintro e w5 ⟨A5,c5,rfl,o5,hb_w5⟩
     have hs5:=hb_w5.size
     have p4:w5.cell? ⟨g,k * 8 + 4,none⟩=some (.slice A 1 ca):=(hb_w5.cell (p:=⟨g,k * 8 + 4,none⟩) hgl).trans q4
     have g4':w5.frozen? ⟨g,k * 8 + 4,none⟩=false:=((bcell hb_w5).2 _ _ hgl).trans g4
     have p6:w5.cell? ⟨g,k * 8 + 6,none⟩=some (.slice M 1 cm):=(hb_w5.cell (p:=⟨g,k * 8 + 6,none⟩) hgl).trans q6
     have g6':w5.frozen? ⟨g,k * 8 + 6,none⟩=false:=((bcell hb_w5).2 _ _ hgl).trans g6
     have bS5:Below wb.heap.size wS w5:=hbS.trans (hb_w5.mono (by omega))
     have b5:Below w.heap.size w w5:=hbw.trans (hb_w5.mono hswr)
     have ro5:=((owns_laterN HK.out.row_ hb_w5).stored (k * 8 + 4) (.slice A5 1 c5)).1
     have wo5:∀ j (hj:j < vs.length),j < k → Own (w5.setCell ⟨g,k * 8 + 4,none⟩ (.slice A5 1 c5)) (g + 1) vs[j].A vs[j].d.aw∧Own (w5.setCell ⟨g,k * 8 + 4,none⟩ (.slice A5 1 c5)) (g + 1) vs[j].M vs[j].d.mw:=fun j hj hjk=>
      ⟨((HK.out.words j hj hjk).1.later hb_w5).far (.inl (Nat.lt_succ_self g)) _,((HK.out.words j hj hjk).2.later hb_w5).far (.inl (Nat.lt_succ_self g)) _⟩
     have o5':Own (w5.setCell ⟨g,k * 8 + 4,none⟩ (.slice A5 1 c5)) (g + 1) A5 [xa]:=(o5.own.mono (by omega)).far (.inl (Nat.lt_succ_self g)) _
     have bS6:Below wb.heap.size wS (w5.setCell ⟨g,k * 8 + 4,none⟩ (.slice A5 1 c5)):=bS5.setCell (p:=⟨g,k * 8 + 4,none⟩) HB0.out _
     have b6:Below w.heap.size w (w5.setCell ⟨g,k * 8 + 4,none⟩ (.slice A5 1 c5)):=b5.setCell (p:=⟨g,k * 8 + 4,none⟩) (Nat.le_trans hwb HB0.out) _
     have rm6:=rm.later b6
     have p6':(w5.setCell ⟨g,k * 8 + 4,none⟩ (.slice A5 1 c5)).cell? ⟨g,k * 8 + 6,none⟩=some (.slice M 1 cm):=(cO _ _ _ _ (by intro e;injection e;omega)).trans p6
     have g6'':(w5.setCell ⟨g,k * 8 + 4,none⟩ (.slice A5 1 c5)).frozen? ⟨g,k * 8 + 6,none⟩=false:=by rw [World.frozen?_setCell];exact g6'
     have hg5:g < (w5.setCell ⟨g,k * 8 + 4,none⟩ (.slice A5 1 c5)).heap.size:=by rw [World.size_setCell];omega
     have hz5:w.heap.size ≤ (w5.setCell ⟨g,k * 8 + 4,none⟩ (.slice A5 1 c5)).heap.size:=by rw [World.size_setCell];omega
     have hzb5:wb.heap.size ≤ (w5.setCell ⟨g,k * 8 + 4,none⟩ (.slice A5 1 c5)).heap.size:=by rw [World.size_setCell];omega
     clear q4 q6 g4 g6 ra rm o5 p6 g6' b5 bS5 b0 b1 b2 b3 f0 f1 f2 f3
     obtain ⟨b0,b1,b2,b3,f0,f1,f2,f3⟩:=hBx7.out.below bS6 (by omega)
     go_wp2_with fail
     generalize w5.setCell ⟨g,k * 8 + 4,none⟩ (.slice A5 1 c5)=w6 at *
     go_at_call 205
     refine (wclone1 rm6).mono ?_
     rintro e w7 ⟨A7,c7,rfl,o7,hb_w7⟩
     have hs7:=hb_w7.size
     have p7:w7.cell? ⟨g,k * 8 + 6,none⟩=some (.slice M 1 cm):=(hb_w7.cell (p:=⟨g,k * 8 + 6,none⟩) hg5).trans p6'
     have g7:w7.frozen? ⟨g,k * 8 + 6,none⟩=false:=((bcell hb_w7).2 _ _ hg5).trans g6''
     have bS7:Below wb.heap.size wS w7:=bS6.trans (hb_w7.mono hzb5)
     have ro7:=((owns_laterN ro5 hb_w7).stored (k * 8 + 6) (.slice A7 1 c7)).1
     have hset:((flat8 vs).set (k * 8 + 4) (.slice A5 1 c5)).set (k * 8 + 6) (.slice A7 1 c7)=flat8 (vs.set k ⟨d,A5,c5,A7,c7⟩):=by
      have e1:=flat8_set vs k 4 ⟨d,A5,c5,M,cm⟩ (.slice A5 1 c5) hkl (by omega) (by rw [HV.out];simp [cells8,HXA.out])
      have e2:=flat8_set (vs.set k ⟨d,A5,c5,M,cm⟩) k 6 ⟨d,A5,c5,A7,c7⟩ (.slice A7 1 c7) (by rw [List.length_set];exact hkl) (by omega) (by rw [List.getElem_set_self];simp [cells8,HXM.out])
      rw [e1,e2,List.set_set]
     rw [hset] at ro7
     have HNX:Hid (CopK (w7.setCell ⟨g,k * 8 + 6,none⟩ (.slice A7 1 c7)) wb.heap.size g n cs1 vs0 (vs.set k ⟨d,A5,c5,A7,c7⟩) (k + 1)):=Lib.hid (CopK.next HK.out.len HK.out.same HK.out.rest hlt ⟨d,A5,c5,A7,c7⟩ (by rw [HV.out]) ro7
      (fun j hj hjk=>⟨((wo5 j hj hjk).1.later hb_w7).far (.inl (Nat.lt_succ_self g)) _,((wo5 j hj hjk).2.later hb_w7).far (.inl (Nat.lt_succ_self g)) _⟩)
      (by show Own _ _ A5 d.aw;rw [HXA.out];exact (o5'.later hb_w7).far (.inl (Nat.lt_succ_self g)) _) (by show Own _ _ A7 d.mw;rw [HXM.out];exact (o7.own.mono (by omega)).far (.inl (Nat.lt_succ_self g)) _))
     have bS8:Below wb.heap.size wS (w7.setCell ⟨g,k * 8 + 6,none⟩ (.slice A7 1 c7)):=bS7.setCell (p:=⟨g,k * 8 + 6,none⟩) HB0.out _
     clear wo5 o5' ro5 ro7 hset o7 b6 bS7 bS6 HK p6' g6'' b0 b1 b2 b3 f0 f1 f2 f3
     go_wp2
     go_roundw
     case rel=>exact ⟨k + 1,by go_num,by omega,_,HNX.out,by rw [World.size_setCell];omega,bS8⟩
     case measure=>simp [intOf];omega
    ·obtain rfl:k=n:=by omega
     have HE:=Lib.hid (hK.end_ HB0.out (fun v hv=>HW.out v hv))
     have HS:=Lib.hid hK.same
     have HLn:=Lib.hid hK.len
     clear hK
     have hR8:=hR7.out.below hbS (by omega)
     have oA7:=oA6.belowC HA4.out hbS
     have oU7:=oU6.belowC HU4.out hbS
     obtain ⟨r0,r1,r2,r3,t0,t1,t2,t3⟩:=id hR8
     go_wp2
     have hF:=(((hR8.set0 (.slice A1 h.ws.length c1)).set1 (.int .i64 h.n)).set2 (.slice U1 h.us.length cu1)).set3 (.slice (some ⟨g,0,none⟩) k cs1)
     refine bodyPost_ret (res_hp1 rfl rfl hF.c0 hF.c1 hF.c2 hF.c3) rfl ?_
     refine ⟨⟨A1,c1,U1,cu1,some ⟨g,0,none⟩,cs1⟩,by rw [HN.out],?_,?_⟩
     ·have hO:OwnsH wr (w.heap.size + 1 + 1) ⟨A1,c1,U1,cu1,some ⟨g,0,none⟩,cs1⟩ h:=⟨oA7,oU7,vs,by rw [HS.out];exact HVS.out,by rw [HN.out];exact HE.out.mono (by omega)⟩
      exact (((((hO.far (p:=⟨w.heap.size + 1,0,none⟩) (Nat.lt_succ_self _) _).far (p:=⟨w.heap.size + 1,1,none⟩) (Nat.lt_succ_self _) _).far (p:=⟨w.heap.size + 1,2,none⟩) (Nat.lt_succ_self _) _).far (p:=⟨w.heap.size + 1,3,none⟩) (Nat.lt_succ_self _) _)).mono (by omega)
     ·iterate 4 (refine Below.setCell ?_ (by show _ ≤ w.heap.size + 1;omega) _)
      exact hbw
set_option maxHeartbeats 8000000 in
theorem ztwin_any {w:World} {v:Hv} {h:Hp} (hM:HM w w.heap.size v h) (hF:Framed h) (hnil:v.V=none → v.cv=0) :
  Calls Tryz.prog 74 #[hpV v h] w fun e w'=>∃ v',e=.returned (hpV v' h)∧OwnsH w' w.heap.size v' h∧Below w.heap.size w w':=by
 have HT:=Lib.hid fun (W:World) (hm:HM W W.heap.size v h)=>zheap_any (w:=W) (v:=v) (h:=h) hm hF hnil
 have HMM:=Lib.hid hM
 clear hF hnil hM
 unfold hpV hpv at *
 go_enter Tryz.func74,Tryz.ntmps74
 have b0:Below w.heap.size w ((w.alloc (.cells #[.slice v.A h.ws.length v.ca,.int .i64 h.n,.slice v.U h.us.length v.cu,.slice v.V h.l.length v.cv] 112)).alloc (.cells #[.slice none 0 0,.int .i64 0,.slice none 0 0,.slice none 0 0] 112)):=bX
 have hm0:=Lib.hid (HMM.out.later b0)
 go_wp2_with fail
 go_at_call 144
 refine (HT.out _ hm0.out).mono ?_
 rintro e w1 ⟨v',rfl,ow,hb_w1⟩
 obtain ⟨hc_w1,hf_w1⟩:=bcell hb_w1;have hz_w1_w_0:w.heap.size < w1.heap.size:=lY hb_w1.size;have hz_w1_w_1:w.heap.size + 1 < w1.heap.size:=lY hb_w1.size;have hs_w1:=hb_w1.size;(try simp only [zZ] at hs_w1)
 have hR0:=(B4.new (w.alloc (.cells #[.slice v.A h.ws.length v.ca,.int .i64 h.n,.slice v.U h.us.length v.cu,.slice v.V h.l.length v.cv] 112)) (.slice none 0 0) (.int .i64 0) (.slice none 0 0) (.slice none 0 0) 112).later hb_w1
 simp only [zA] at ow hR0
 have hb1:Below w.heap.size w w1:=bX
 obtain ⟨r0,r1,r2,r3,t0,t1,t2,t3⟩:=id hR0
 clear hc_w1 hf_w1
 go_wp2
 have hF:=(((hR0.set0 (.slice v'.A h.ws.length v'.ca)).set1 (.int .i64 h.n)).set2 (.slice v'.U h.us.length v'.cu)).set3 (.slice v'.V h.l.length v'.cv)
 refine bodyPost_ret (res_hp1w rfl rfl hF.c0 hF.c1 hF.c2 hF.c3) rfl ?_
 refine ⟨v',rfl,?_,?_⟩
 ·exact (((((ow.far (p:=⟨w.heap.size + 1,0,none⟩) (Nat.lt_succ_self _) _).far (p:=⟨w.heap.size + 1,1,none⟩) (Nat.lt_succ_self _) _).far (p:=⟨w.heap.size + 1,2,none⟩) (Nat.lt_succ_self _) _).far (p:=⟨w.heap.size + 1,3,none⟩) (Nat.lt_succ_self _) _)).mono (by omega)
 ·iterate 4 (refine Below.setCell ?_ (by show _ ≤ w.heap.size + 1;omega) _)
  exact hb1
theorem nth_map (l:List Sd) (f:Sd → Sd) (j:Nat) (hj:j < l.length):nth (l.map f) j=f (nth l j):=by
 unfold nth
 rw [List.getD_eq_getElem?_getD,List.getElem?_map,List.getD_eq_getElem?_getD,List.getElem?_eq_getElem hj]
 rfl
theorem OkH.slot {h:Hp} (hk:OkH h) {j k:Nat} (hj:j < h.l.length) (hk':k < slN (nth h.l j)) (ha:tb (nth h.l j).aw k=true) :
  Un (h.ws.getD (slA (nth h.l j) k) 0)∧(unN (h.ws.getD (slA (nth h.l j) k) 0)).toNat + 1 ≤ swd (nth h.l j)∧0 ≤ unN (h.ws.getD (slA (nth h.l j) k) 0)∧slA (nth h.l j) k + swd (nth h.l j) ≤ h.ws.length∧16 ≤ slA (nth h.l j) k:=by
 have ok:=hk.framed.spans.at_ hj
 obtain ⟨hu,hfit⟩:=(hk.filled.sound j hj k hk').head_ ha
 obtain ⟨b0,b1⟩:=unN_bounds (h.ws.getD (slA (nth h.l j) k) 0)
 have hr:=szn_room b0 b1 hfit
 have hin:=ok.slA_in hk'
 have hw:=hk.owned.in_ j hj
 have hl:=hk.framed.long
 have hsz:=ok.sized.slots
 exact ⟨hu,hr.1,b0,by omega,by omega⟩
theorem OkH.slotW {h:Hp} (hk:OkH h) {j k:Nat} (hj:j < h.l.length) (hk':k < slN (nth h.l j)):slA (nth h.l j) k + swd (nth h.l j) ≤ h.ws.length∧16 ≤ slA (nth h.l j) k∧2 ≤ swd (nth h.l j):=by
 have ok:=hk.framed.spans.at_ hj
 have hin:=ok.slA_in hk'
 have hw:=hk.owned.in_ j hj
 have hl:=hk.framed.long
 have hsz:=ok.sized.slots
 have:=ok.swd_eq
 exact ⟨by omega,by omega,this.2.1⟩
def stoH (h:Hp) (p x:Nat):Hp:=⟨h.ws.set p x,h.n,h.us,h.l⟩
theorem stoH_ok {h:Hp} (hk:OkH h) {j k:Nat} (hj:j < h.l.length) (hk':k < slN (nth h.l j)) (ha:tb (nth h.l j).aw k=true) {f:Nat} (hf:(f:Int) < unN (h.ws.getD (slA (nth h.l j) k) 0)) {x:Nat}
  (hx:(unM (h.ws.getD (slA (nth h.l j) k) 0)).testBit f=true → x=0 ∨ Cur h x):OkH (stoH h (slA (nth h.l j) k + 1 + f) x):=by
 obtain ⟨u1,u2,u3,u4,u5⟩:=hk.slot hj hk' ha
 obtain ⟨p,hp⟩:∃ p,slA (nth h.l j) k + 1 + f=p:=⟨_,rfl⟩
 rw [hp]
 have hpl:p < h.ws.length:=by omega
 have hgd:∀ y,(h.ws.set p x).getD y 0=if y=p then x else h.ws.getD y 0:=fun y=>getD_setN _ _ _ _ hpl
 have hne:∀ j' k' y,j' < h.l.length → k' < slN (nth h.l j') → ¬ (j'=j∧k'=k) → slA (nth h.l j') k' ≤ y → y < slA (nth h.l j') k' + swd (nth h.l j') → y ≠ p:=by
  rintro j' k' y h1 h2 h3 h4 h5 rfl
  exact h3 (slot_one hk.framed h1 h2 hj hk' h4 h5 (by omega) (by omega))
 refine hk.like (h':=stoH h p x) ⟨rfl,rfl,by simp [stoH],rfl,fun j _=>Pl.refl _,fun j hj=>hk.framed.spans.at_ hj⟩ (fun y hy hn=>?_) (fun j' k' h1 h2=>?_) (fun j' k' h1 h2 hc=>?_)
 ·show (h.ws.set p x).getD y 0=_
  rw [hgd,if_neg]
  rintro rfl
  exact hn j k hj hk' (by omega)
 ·show SlotOk (h.ws.set p x) (nth h.l j') k'
  have so:=hk.filled.sound j' h1 k' h2
  have hw:=hk.slotW h1 h2
  by_cases e:j'=j∧k'=k
  ·obtain ⟨rfl,rfl⟩:=e
   have e0:(h.ws.set p x).getD (slA (nth h.l j') k') 0=h.ws.getD (slA (nth h.l j') k') 0:=by rw [hgd,if_neg (by omega)]
   have et:takN (h.ws.set p x) (nth h.l j') k'=takN h.ws (nth h.l j') k':=by unfold takN;rw [e0]
   refine ⟨fun h3=>by rw [e0];exact so.head_ h3,fun q h3 h4=>?_⟩
   rw [et] at h3
   have h3':=h3
   unfold takN at h3'
   rw [if_pos ha] at h3'
   rw [hgd,if_neg (by omega)]
   exact so.rest q h3 h4
  ·exact slotOk_congr (Pl.refl _) rfl (fun y h3 h4=>by rw [hgd,if_neg (hne j' k' y h1 h2 e h3 h4)]) (by omega) so
 ·show RefsAt (h.ws.set p x) (Cur h) (nth h.l j') k'
  have hc:tb (curW (nth h.l j')) k'=true:=hc
  have old:=(linked_iff hk.framed.spans).1 hk.linked j' k' h1 h2 hc
  have ha':=(hk.framed.spans.at_ h1).cur_sub h2 hc
  obtain ⟨v1,v2,v3,v4,v5⟩:=hk.slot h1 h2 ha'
  by_cases e:j'=j∧k'=k
  ·obtain ⟨rfl,rfl⟩:=e
   intro q hq hb
   rw [hgd,if_neg (by omega)] at hq hb
   rw [hgd]
   split
   ·obtain rfl:q=f:=by omega
    exact hx hb
   ·exact old q hq hb
  ·exact refsAt_congr (Pl.refl _) (fun y h3 h4=>by rw [hgd,if_neg (hne j' k' y h1 h2 e h3 (by omega))]) old
def setL (h:Hp) (i:Nat) (d:Sd):Hp:=⟨h.ws,h.n,h.us,h.l.set i d⟩
def mkD (d:Sd) (k:Nat) (b:Bool):Sd:=⟨d.f,d.p,d.z,d.an,d.aw,d.mn,putW d.mw k b,d.s⟩
def marH (h:Hp) (i k:Nat):Hp:=setL h i (mkD (nth h.l i) k true)
theorem Ok1.mk_ {d:Sd} (h:Ok1 d) {k:Nat} (hk:k < slN d) (b:Bool) (hb:b=true → tb d.aw k=true):Ok1 (mkD d k b):=by
 have hN:=h.slK
 have hmn:=h.mn
 have hl:=h.m.long
 have hlt:k < 64 * d.mw.length:=by omega
 refine ⟨h.sized,h.placed,h.a,h.an,right_putW h.m k b (by omega),h.mn,fun i hi ht=>?_⟩
 have ht:tb (putW d.mw k b) i=true:=ht
 rw [tb_putW _ _ _ _ hlt] at ht
 show tb d.aw i=true
 by_cases e:i=k
 ·rw [if_pos e] at ht
  rw [e]
  exact hb ht
 ·rw [if_neg e] at ht
  exact h.sub i hi ht
theorem mk_cur {d:Sd} (h:Ok1 d) {k:Nat} (hk:k < slN d) (hc:d.s=false → tb d.mw k=true) (i:Nat):tb (curW (mkD d k true)) i=tb (curW d) i:=by
 have hN:=h.slK
 have hmn:=h.mn
 have hl:=h.m.long
 unfold curW mkD
 simp only
 rcases hs:d.s with _ | _
 ·simp only [Bool.false_eq_true,if_false]
  rw [tb_putW _ _ _ _ (by omega)]
  by_cases e:i=k
  ·rw [if_pos e,e];exact (hc hs).symm
  ·rw [if_neg e]
 ·rfl
theorem mark_like {h:Hp} (hk:OkH h) {i k:Nat} (hi:i < h.l.length) {d:Sd} (hd:Pl (nth h.l i) d) (h1:Ok1 d):Like h (setL h i d):=by
 refine ⟨rfl,rfl,rfl,by simp [setL],fun j hj=>?_,fun j hj=>?_⟩
 ·show Pl _ (nth (h.l.set i d) j)
  rw [nth_set _ _ _ _ hi]
  split
  ·rename_i e;rw [e];exact hd
  ·exact Pl.refl _
 ·show Ok1 (nth (h.l.set i d) j)
  rw [nth_set _ _ _ _ hi]
  split
  ·exact h1
  ·exact hk.framed.spans.at_ hj
theorem OkH.recur {h h':Hp} (hk:OkH h) (L:Like h h') (ew:h'.ws=h.ws) (ha:∀ j k,j < h.l.length → k < slN (nth h.l j) → tb (nth h'.l j).aw k=tb (nth h.l j).aw k)
  (K:∀ j k,j < h.l.length → k < slN (nth h.l j) → tb (curW (nth h'.l j)) k=true → RefsAt h.ws (Cur h') (nth h.l j) k):OkH h':=by
 refine hk.like L (fun y _ _=>by rw [ew]) (fun j k h1 h2=>?_) (fun j k h1 h2 hc=>?_)
 ·exact slotOk_congr (L.pl j h1) (ha j k h1 h2) (fun y _ _=>by rw [ew]) (by have:=hk.slotW h1 h2;omega) (hk.filled.sound j h1 k h2)
 ·exact refsAt_congr (L.pl j h1) (fun y _ _=>by rw [ew]) (K j k h1 h2 hc)
theorem cur_like {h h':Hp} (L:Like h h') (e:∀ j k,j < h.l.length → k < slN (nth h.l j) → tb (curW (nth h'.l j)) k=tb (curW (nth h.l j)) k) (a:Nat):Cur h' a ↔ Cur h a:=by
 constructor
 ·rintro ⟨j,k,hj,hk,hc,ha⟩
  rw [L.l] at hj
  have p:=L.pl j hj
  rw [p.slN] at hk
  rw [e j k hj hk] at hc
  rw [p.slA] at ha
  exact ⟨j,k,hj,hk,hc,ha⟩
 ·rintro ⟨j,k,hj,hk,hc,ha⟩
  have p:=L.pl j hj
  exact ⟨j,k,by rw [L.l];exact hj,by rw [p.slN];exact hk,by rw [e j k hj hk];exact hc,by rw [p.slA];exact ha⟩
theorem marH_like {h:Hp} (hk:OkH h) {i k:Nat} (hi:i < h.l.length) (hk':k < slN (nth h.l i)) (ha:tb (nth h.l i).aw k=true):Like h (marH h i k):=
 mark_like hk (k:=k) hi ⟨rfl,rfl,rfl⟩ ((hk.framed.spans.at_ hi).mk_ hk' true fun _=>ha)
theorem marH_cur {h:Hp} (hk:OkH h) {i k:Nat} (hi:i < h.l.length) (hk':k < slN (nth h.l i)) (hc:tb (curW (nth h.l i)) k=true) (a:Nat):Cur (marH h i k) a ↔ Cur h a:=by
 refine cur_like (marH_like hk hi hk' ((hk.framed.spans.at_ hi).cur_sub hk' hc)) (fun j q hj hq=>?_) a
 show tb (curW (nth (h.l.set i _) j)) q=_
 rw [nth_set _ _ _ _ hi]
 split
 ·rename_i e
  subst e
  refine mk_cur (hk.framed.spans.at_ hi) hk' (fun hs=>?_) q
  unfold curW at hc
  rw [hs] at hc
  exact hc
 ·rfl
theorem marH_ok {h:Hp} (hk:OkH h) {i k:Nat} (hi:i < h.l.length) (hk':k < slN (nth h.l i)) (hc:tb (curW (nth h.l i)) k=true):OkH (marH h i k):=by
 have L:=marH_like hk hi hk' ((hk.framed.spans.at_ hi).cur_sub hk' hc)
 refine hk.recur L rfl (fun j q hj hq=>?_) (fun j q hj hq hc'=>?_)
 ·show tb (nth (h.l.set i _) j).aw q=_
  rw [nth_set _ _ _ _ hi]
  split
  ·rename_i e;subst e;rfl
  ·rfl
 ·have hc2:tb (curW (nth h.l j)) q=true:=by
   rw [← hc']
   show _=tb (curW (nth (h.l.set i _) j)) q
   rw [nth_set _ _ _ _ hi]
   split
   ·rename_i e
    subst e
    refine (mk_cur (hk.framed.spans.at_ hi) hk' (fun hs=>?_) q).symm
    unfold curW at hc
    rw [hs] at hc
    exact hc
   ·rfl
  exact ((linked_iff hk.framed.spans).1 hk.linked j q hj hq hc2).mono fun a h=>(marH_cur hk hi hk' hc a).2 h
def unmD (d:Sd):Sd:=⟨d.f,d.p,d.z,d.an,d.aw,d.mn,fillW d.mw 0 d.mn.toNat false,d.s⟩
def unmH (h:Hp):Hp:=⟨h.ws,h.n,h.us,h.l.map unmD⟩
theorem Ok1.unm {d:Sd} (h:Ok1 d):Ok1 (unmD d)∧∀ i,i < slN d → tb (unmD d).mw i=false:=by
 have hN:=h.slK
 have hmn:=h.mn
 have hl:=h.m.long
 have key:∀ i,i < slN d → tb (fillW d.mw 0 d.mn.toNat false) i=false:=fun i hi=>by
  rw [tb_fillW _ _ _ _ _ (by omega),if_pos (by omega)]
 refine ⟨⟨h.sized,h.placed,h.a,h.an,right_fillW h.m 0 d.mn.toNat false (by omega),h.mn,fun i hi ht=>?_⟩,key⟩
 have ht:tb (fillW d.mw 0 d.mn.toNat false) i=true:=ht
 rw [key i hi] at ht
 cases ht
def SweptH (h:Hp):Prop:=∀ j,j < h.l.length → (nth h.l j).s=true
theorem unmH_like {h:Hp} (hk:OkH h):Like h (unmH h):=by
 refine ⟨rfl,rfl,rfl,by simp [unmH],fun j hj=>?_,fun j hj=>?_⟩
 ·show Pl _ (nth (h.l.map unmD) j)
  rw [nth_map _ _ _ hj]
  exact ⟨rfl,rfl,rfl⟩
 ·show Ok1 (nth (h.l.map unmD) j)
  rw [nth_map _ _ _ hj]
  exact (hk.framed.spans.at_ hj).unm.1
theorem unmH_cur {h:Hp} (hk:OkH h) (hs:SweptH h) (a:Nat):Cur (unmH h) a ↔ Cur h a:=by
 refine cur_like (unmH_like hk) (fun j q hj hq=>?_) a
 show tb (curW (nth (h.l.map unmD) j)) q=_
 rw [nth_map _ _ _ hj]
 unfold curW unmD
 simp [hs j hj]
theorem unmH_ok {h:Hp} (hk:OkH h) (hs:SweptH h):OkH (unmH h):=by
 refine hk.recur (unmH_like hk) rfl (fun j q hj hq=>?_) (fun j q hj hq hc'=>?_)
 ·show tb (nth (h.l.map unmD) j).aw q=_
  rw [nth_map _ _ _ hj]
  rfl
 ·have hc2:tb (curW (nth h.l j)) q=true:=by
   rw [← hc']
   show _=tb (curW (nth (h.l.map unmD) j)) q
   rw [nth_map _ _ _ hj]
   unfold curW unmD
   simp [hs j hj]
  exact ((linked_iff hk.framed.spans).1 hk.linked j q hj hq hc2).mono fun a h=>(unmH_cur hk hs a).2 h
def trnD (d:Sd):Sd:=⟨d.f,d.p,d.z,d.an,d.aw,d.mn,d.mw,false⟩
def trnH (h:Hp):Hp:=⟨h.ws,h.n,h.us,h.l.map trnD⟩
def Mkd (h:Hp) (a:Nat):Prop:=∃ j k,j < h.l.length∧k < slN (nth h.l j)∧tb (nth h.l j).mw k=true∧slA (nth h.l j) k=a
def ClosedH (h:Hp):Prop:=∀ j k,j < h.l.length → k < slN (nth h.l j) → tb (nth h.l j).mw k=true → RefsAt h.ws (Mkd h) (nth h.l j) k
theorem Ok1.trn {d:Sd} (h:Ok1 d):Ok1 (trnD d):=⟨h.sized,h.placed,h.a,h.an,h.m,h.mn,h.sub⟩
theorem trnH_like {h:Hp} (hk:OkH h):Like h (trnH h):=by
 refine ⟨rfl,rfl,rfl,by simp [trnH],fun j hj=>?_,fun j hj=>?_⟩
 ·show Pl _ (nth (h.l.map trnD) j)
  rw [nth_map _ _ _ hj]
  exact ⟨rfl,rfl,rfl⟩
 ·show Ok1 (nth (h.l.map trnD) j)
  rw [nth_map _ _ _ hj]
  exact (hk.framed.spans.at_ hj).trn
theorem trnH_cur {h:Hp} (hk:OkH h) (a:Nat):Cur (trnH h) a ↔ Mkd h a:=by
 have e:∀ j,j < h.l.length → nth (trnH h).l j=trnD (nth h.l j):=fun j hj=>nth_map _ _ _ hj
 have el:(trnH h).l.length=h.l.length:=by simp [trnH]
 constructor
 ·rintro ⟨j,k,hj,hk1,hc,ha⟩
  rw [el] at hj
  rw [e j hj] at hk1 hc ha
  exact ⟨j,k,hj,hk1,hc,ha⟩
 ·rintro ⟨j,k,hj,hk1,hc,ha⟩
  exact ⟨j,k,by rw [el];exact hj,by rw [e j hj];exact hk1,by rw [e j hj];exact hc,by rw [e j hj];exact ha⟩
theorem trnH_ok {h:Hp} (hk:OkH h) (hc:ClosedH h):OkH (trnH h):=by
 refine hk.recur (trnH_like hk) rfl (fun j q hj hq=>?_) (fun j q hj hq hc'=>?_)
 ·show tb (nth (h.l.map trnD) j).aw q=_
  rw [nth_map _ _ _ hj]
  rfl
 ·have hc2:tb (nth h.l j).mw q=true:=by
   rw [← hc']
   show _=tb (curW (nth (h.l.map trnD) j)) q
   rw [nth_map _ _ _ hj]
   rfl
  exact (hc j q hj hq hc2).mono fun a h=>(trnH_cur hk a).2 h
def plcD (d:Sd) (k:Nat) (b:Bool):Sd:=⟨d.f,d.p,d.z,d.an,putW d.aw k true,d.mn,putW d.mw k b,d.s⟩
def plcH (h:Hp) (i k:Nat) (n:Int) (m:Nat) (b:Bool):Hp:=⟨h.ws.set (slA (nth h.l i) k) (pk n m),h.n,h.us,h.l.set i (plcD (nth h.l i) k b)⟩
theorem Ok1.plc {d:Sd} (h:Ok1 d) {k:Nat} (hk:k < slN d) (b:Bool):Ok1 (plcD d k b):=by
 have hN:=h.slK
 have hmn:=h.mn
 have han:=h.an
 have hl:=h.m.long
 have hla:=h.a.long
 refine ⟨h.sized,h.placed,right_putW h.a k true (by omega),h.an,right_putW h.m k b (by omega),h.mn,fun i hi ht=>?_⟩
 have ht:tb (putW d.mw k b) i=true:=ht
 rw [tb_putW _ _ _ _ (by omega)] at ht
 show tb (putW d.aw k true) i=true
 rw [tb_putW _ _ _ _ (by omega)]
 by_cases e:i=k
 ·rw [if_pos e]
 ·rw [if_neg e] at ht ⊢
  exact h.sub i hi ht
theorem pk_uns {n:Int} {m:Nat} (h:Sh n m):Un (pk n m)∧unN (pk n m)=n∧unM (pk n m)=m:=by
 obtain ⟨h1,h2,h3⟩:=un_pk h
 refine ⟨h3,?_,?_⟩
 ·unfold unN;rw [if_pos h3,h1]
 ·unfold unM;rw [if_pos h3,h2]
theorem plcH_like {h:Hp} (hk:OkH h) {i k:Nat} (hi:i < h.l.length) (hk':k < slN (nth h.l i)) (n:Int) (m:Nat) (b:Bool):Like h (plcH h i k n m b):=by
 refine ⟨rfl,rfl,by simp [plcH],by simp [plcH],fun j hj=>?_,fun j hj=>?_⟩
 ·show Pl _ (nth (h.l.set i _) j)
  rw [nth_set _ _ _ _ hi]
  split
  ·rename_i e;rw [e];exact ⟨rfl,rfl,rfl⟩
  ·exact Pl.refl _
 ·show Ok1 (nth (h.l.set i _) j)
  rw [nth_set _ _ _ _ hi]
  split
  ·exact (hk.framed.spans.at_ hi).plc hk' b
  ·exact hk.framed.spans.at_ hj
theorem plc_cur {d:Sd} (h:Ok1 d) {k:Nat} (hk:k < slN d) (hs:d.s=true) (b:Bool) (i:Nat):tb (curW (plcD d k b)) i=if i=k then true else tb (curW d) i:=by
 have hN:=h.slK
 have han:=h.an
 have hl:=h.a.long
 unfold curW plcD
 simp only [hs,if_true]
 rw [tb_putW _ _ _ _ (by omega)]
theorem plcH_cur {h:Hp} (hk:OkH h) {i k:Nat} (hi:i < h.l.length) (hk':k < slN (nth h.l i)) (hs:(nth h.l i).s=true) (n:Int) (m:Nat) (b:Bool) (a:Nat):Cur (plcH h i k n m b) a ↔ (Cur h a ∨ a=slA (nth h.l i) k):=by
 have L:=plcH_like hk hi hk' n m b
 have e:∀ j,nth (plcH h i k n m b).l j=if j=i then plcD (nth h.l i) k b else nth h.l j:=fun j=>nth_set _ _ _ _ hi
 have hc:∀ j q,j < h.l.length → (tb (curW (nth (plcH h i k n m b).l j)) q=true ↔ (tb (curW (nth h.l j)) q=true ∨ (j=i∧q=k))):=fun j q hj=>by
  rw [e]
  by_cases ej:j=i
  ·subst ej
   rw [if_pos rfl,plc_cur (hk.framed.spans.at_ hj) hk' hs]
   by_cases eq:q=k
   ·simp [eq]
   ·simp [eq]
  ·rw [if_neg ej]
   simp [ej]
 constructor
 ·rintro ⟨j,q,hj,hq,hcc,ha⟩
  rw [L.l] at hj
  have p:=L.pl j hj
  rw [p.slN] at hq
  rw [p.slA] at ha
  rcases (hc j q hj).1 hcc with h1 | ⟨rfl,rfl⟩
  ·exact .inl ⟨j,q,hj,hq,h1,ha⟩
  ·exact .inr ha.symm
 ·rintro (⟨j,q,hj,hq,hcc,ha⟩ | rfl)
  ·have p:=L.pl j hj
   exact ⟨j,q,by rw [L.l];exact hj,by rw [p.slN];exact hq,(hc j q hj).2 (.inl hcc),by rw [p.slA];exact ha⟩
  ·have p:=L.pl i hi
   exact ⟨i,k,by rw [L.l];exact hi,by rw [p.slN];exact hk',(hc i k hi).2 (.inr ⟨rfl,rfl⟩),p.slA k⟩
theorem plcH_ok {h:Hp} (hk:OkH h) {i k:Nat} (hi:i < h.l.length) (hk':k < slN (nth h.l i)) (hs:(nth h.l i).s=true) (hfree:tb (nth h.l i).aw k=false) {n:Int} {m:Nat} (hsh:Sh n m) (hfit:fitsB n (nth h.l i)=true) (b:Bool):OkH (plcH h i k n m b):=by
 have L:=plcH_like hk hi hk' n m b
 have hw:=hk.slotW hi hk'
 obtain ⟨a,ha⟩:∃ a,slA (nth h.l i) k=a:=⟨_,rfl⟩
 rw [ha] at hw
 have hal:a < h.ws.length:=by omega
 have hgd:∀ y,(plcH h i k n m b).ws.getD y 0=if y=a then pk n m else h.ws.getD y 0:=fun y=>by
  show (h.ws.set (slA (nth h.l i) k) _).getD y 0=_
  rw [ha]
  exact getD_setN _ _ _ _ hal
 have hne:∀ j' k' y,j' < h.l.length → k' < slN (nth h.l j') → ¬ (j'=i∧k'=k) → slA (nth h.l j') k' ≤ y → y < slA (nth h.l j') k' + swd (nth h.l j') → y ≠ a:=by
  rintro j' k' y h1 h2 h3 h4 h5 rfl
  exact h3 (slot_one hk.framed h1 h2 hi hk' h4 h5 (by omega) (by omega))
 have hzero:∀ q,q < swd (nth h.l i) → h.ws.getD (a + q) 0=0:=fun q hq=>by
  rw [← ha]
  refine (hk.filled.sound i hi k hk').rest q ?_ hq
  unfold takN
  rw [hfree]
  simp
 have en:∀ j,nth (plcH h i k n m b).l j=if j=i then plcD (nth h.l i) k b else nth h.l j:=fun j=>nth_set _ _ _ _ hi
 obtain ⟨p1,p2,p3⟩:=pk_uns hsh
 have hroom:=szn_room hsh.1 hsh.2.1 hfit
 have hN:=(hk.framed.spans.at_ hi).slK
 have han:=(hk.framed.spans.at_ hi).an
 have hla:=(hk.framed.spans.at_ hi).a.long
 have haw:∀ q,tb (plcD (nth h.l i) k b).aw q=if q=k then true else tb (nth h.l i).aw q:=fun q=>tb_putW _ _ _ _ (by omega)
 refine hk.like L (fun y hy hn=>?_) (fun j' k' h1 h2=>?_) (fun j' k' h1 h2 hc=>?_)
 ·rw [hgd,if_neg]
  rintro rfl
  exact hn i k hi hk' (by omega)
 ·have so:=hk.filled.sound j' h1 k' h2
  have hw':=hk.slotW h1 h2
  by_cases e:j'=i∧k'=k
  ·obtain ⟨rfl,rfl⟩:=e
   rw [en,if_pos rfl]
   have e0:(plcH h j' k' n m b).ws.getD (slA (plcD (nth h.l j') k' b) k') 0=pk n m:=by
    rw [hgd,if_pos]
    exact ha
   refine ⟨fun _=>?_,fun q h3 h4=>?_⟩
   ·rw [e0,p2]
    exact ⟨p1,hfit⟩
   ·unfold takN at h3
    rw [haw,if_pos rfl,if_pos rfl,e0,p2] at h3
    have h5:slA (plcD (nth h.l j') k' b) k'=a:=ha
    rw [h5,hgd,if_neg (by omega)]
    exact hzero q h4
  ·refine slotOk_congr (L.pl j' h1) ?_ (fun y h3 h4=>by rw [hgd,if_neg (hne j' k' y h1 h2 e h3 h4)]) (by omega) so
   rw [en]
   split
   ·rename_i ej
    subst ej
    rw [haw,if_neg (fun eq=>e ⟨rfl,eq⟩)]
   ·rfl
 ·have hmono:∀ x,Cur h x → Cur (plcH h i k n m b) x:=fun x hx=>(plcH_cur hk hi hk' hs n m b x).2 (.inl hx)
  by_cases e:j'=i∧k'=k
  ·obtain ⟨rfl,rfl⟩:=e
   intro f hf hb
   have e0:(plcH h j' k' n m b).ws.getD (slA (nth (plcH h j' k' n m b).l j') k') 0=pk n m:=by
    rw [hgd,if_pos]
    rw [(L.pl j' h1).slA]
    exact ha
   rw [e0,p2] at hf
   left
   rw [(L.pl j' h1).slA,hgd,if_neg (by omega),ha,Nat.add_assoc]
   exact hzero (1 + f) (by omega)
  ·have hc2:tb (curW (nth h.l j')) k'=true:=by
    rw [en] at hc
    split at hc
    ·rename_i ej
     subst ej
     rw [plc_cur (hk.framed.spans.at_ hi) hk' hs,if_neg (fun eq=>e ⟨rfl,eq⟩)] at hc
     exact hc
    ·exact hc
   have old:=(linked_iff hk.framed.spans).1 hk.linked j' k' h1 h2 hc2
   have ha':=(hk.framed.spans.at_ h1).cur_sub h2 hc2
   obtain ⟨v1,v2,v3,v4,v5⟩:=hk.slot h1 h2 ha'
   exact (refsAt_congr (L.pl j' h1) (fun y h3 h4=>by rw [hgd,if_neg (hne j' k' y h1 h2 e h3 (by omega))]) old).mono hmono
def Apt (b:Nat) (A:Option Addr) (ws:List Nat):Prop:=0 < ws.length → A ≠ some ⟨b,0,none⟩
theorem Own.oth {w:World} {B:Nat} {A:Option Addr} {ws:List Nat} (h:Own w B A ws) {p:Addr} (hp:Apt p.block A ws) (u:Value):Own (w.setCell p u) B A ws:=
 ⟨h.words,fun hl=>by
  obtain ⟨g,e,h1,h2,h3⟩:=h.at_ hl
  have hne:g ≠ p.block:=fun e2=>hp hl (by rw [e,e2])
  exact ⟨g,e,h1,by rw [World.size_setCell];exact h2,fun i hi=>⟨(cO _ p ⟨g,i,none⟩ _ (fun e2=>hne (by rw [e2]))).trans (h3 i hi).1,(World.frozen?_setCell _ _ _ _).trans (h3 i hi).2⟩⟩⟩
theorem Own.apt {w:World} {B b:Nat} {A:Option Addr} {ws:List Nat} (h:Own w B A ws) (hb:b < B):Apt b A ws:=fun hl e=>by
 obtain ⟨g,e2,h1,_⟩:=h.at_ hl
 rw [e] at e2
 injection e2 with e2
 injection e2 with e2
 omega
theorem Own.apt_lt {w:World} {B b:Nat} {A:Option Addr} {ws:List Nat} (h:Own w B A ws) (hb:w.heap.size ≤ b):Apt b A ws:=fun hl e=>by
 obtain ⟨g,e2,h1,h2,_⟩:=h.at_ hl
 rw [e] at e2
 injection e2 with e2
 injection e2 with e2
 omega
def AptS (b:Nat) (V:Option Addr) (vs:List Sv):Prop:=V ≠ some ⟨b,0,none⟩∧∀ x ∈ vs,Apt b x.A x.d.aw∧Apt b x.M x.d.mw
theorem OwnsS.oth {w:World} {B n cap:Nat} {A:Option Addr} {vs:List Sv} (h:OwnsS w B A n cap vs) {p:Addr} (hp:AptS p.block A vs) (u:Value):OwnsS (w.setCell p u) B A n cap vs:=
 ⟨h.len,h.row_.kept (grown_setp w p u) (.inr (by
  intro e
  obtain ⟨_,⟨e1,_⟩ | ⟨q,_,_,e1,e2,_⟩⟩:=id h.row_
  ·injection e1 with e1;subst e1;cases e
  ·injection e1 with e1
   subst e1
   simp only [Value.ownBlock] at e
   injection e with e
   exact hp.1 (by rw [← e]))),fun x hx=>⟨(h.words x hx).1.oth (hp.2 x hx).1 u,(h.words x hx).2.oth (hp.2 x hx).2 u⟩,h.apart⟩
theorem OwnsS.aptS {w:World} {B n cap b:Nat} {A:Option Addr} {vs:List Sv} (h:OwnsS w B A n cap vs) (hb:w.heap.size ≤ b):AptS b A vs:=
 ⟨fun e=>by
  obtain ⟨_,⟨e1,_⟩ | ⟨q,_,_,e1,e2,_⟩⟩:=id h.row_
  ·injection e1 with e1;subst e1;cases e
  ·injection e1 with e1
   subst e1
   have:=(h.row_.lt q rfl).2
   injection e with e
   injection e with e
   omega,fun x hx=>⟨(h.words x hx).1.apt_lt hb,(h.words x hx).2.apt_lt hb⟩⟩
structure WB (w:World) (B b:Nat) (v:Hv) (h:Hp):Prop where
 box:B4 w b (.slice v.A h.ws.length v.ca) (.int .i64 h.n) (.slice v.U h.us.length v.cu) (.slice v.V h.l.length v.cv)
 le:B ≤ b
 a:Own w B v.A h.ws
 u:Own w B v.U h.us
 s:∃ vs,sdsOf vs=h.l∧OwnsS w B v.V h.l.length v.cv vs∧AptS b v.V vs
 na:Apt b v.A h.ws
 nu:Apt b v.U h.us
theorem WB.later {w w':World} {B b:Nat} {v:Hv} {h:Hp} (m:WB w B b v h) (hb:Below w.heap.size w w'):WB w' B b v h:=by
 obtain ⟨vs,e,h1,h2⟩:=m.s
 exact ⟨m.box.later hb,m.le,m.a.later hb,m.u.later hb,⟨vs,e,h1.later hb,h2⟩,m.na,m.nu⟩
theorem WB.owns {w:World} {B b:Nat} {v:Hv} {h:Hp} (m:WB w B b v h):OwnsH w B v h:=by
 obtain ⟨vs,e,h1,h2⟩:=m.s
 exact ⟨m.a,m.u,vs,e,h1⟩
theorem WB.hm {w:World} {B b:Nat} {v:Hv} {h:Hp} (m:WB w B b v h):HM w w.heap.size v h:=m.owns.hm
theorem WB.lt {w:World} {B b:Nat} {v:Hv} {h:Hp} (m:WB w B b v h):b < w.heap.size:=m.box.lt
theorem WB.new {w:World} {B:Nat} {v:Hv} {h:Hp} (o:OwnsH w B v h) (hB:B ≤ w.heap.size) (t:TypeId):WB (w.alloc (.cells #[.slice v.A h.ws.length v.ca,.int .i64 h.n,.slice v.U h.us.length v.cu,.slice v.V h.l.length v.cv] t)) B w.heap.size v h:=by
 obtain ⟨vs,e,hs⟩:=o.s
 have hb:Below w.heap.size w (w.alloc (.cells #[.slice v.A h.ws.length v.ca,.int .i64 h.n,.slice v.U h.us.length v.cu,.slice v.V h.l.length v.cv] t)):=Below.alloc (Below.refl _ _) (Nat.le_refl _) _
 exact ⟨B4.new _ _ _ _ _ _,hB,o.a.later hb,o.u.later hb,⟨vs,e,hs.later hb,hs.aptS (Nat.le_refl _)⟩,o.a.apt_lt (Nat.le_refl _),o.u.apt_lt (Nat.le_refl _)⟩
theorem WB.setA {w:World} {B b:Nat} {v:Hv} {h:Hp} (m:WB w B b v h) {A:Option Addr} {ca:Nat} {ws:List Nat} (o:Own w B A ws) (hA:Apt b A ws):WB (w.setCell ⟨b,0,none⟩ (.slice A ws.length ca)) B b ⟨A,ca,v.U,v.cu,v.V,v.cv⟩ ⟨ws,h.n,h.us,h.l⟩:=by
 obtain ⟨vs,e,h1,h2⟩:=m.s
 exact ⟨m.box.set0 _,m.le,o.oth hA _,m.u.oth m.nu _,⟨vs,e,h1.oth h2 _,h2⟩,hA,m.nu⟩
set_option maxHeartbeats 1000000 in
theorem zstore_any {w:World} {B b:Nat} {v:Hv} {h:Hp} (m:WB w B b v h) (p x:Nat) (hw:h.ws.length ≤ 16384) (hp:p < h.ws.length) (hx:x < W64) :
  Calls Tryz.prog 105 #[.pointer (some ⟨b,0,none⟩),.int .u64 (p:Nat),.int .u64 (x:Nat)] w fun e w'=>e=.returned (.tuple #[])∧(∃ v',WB w' B b v' (stoH h p x)∧v'.V=v.V∧v'.cv=v.cv)∧Below B w w':=by
 have hlt:=m.lt
 have hle:=m.le
 have HS:=Lib.hid fun (w:World) (hr:Row w w.heap.size v.A h.ws)=>store_any (w:=w) (A:=v.A) (ws:=h.ws) v.ca p x hr (by omega) (by unfold W64;omega) hx
 have e1:resA h.ws (p + 1 ≤ h.ws.length) (h.ws.set p x)=h.ws.set p x∧errA h.ws (p + 1 ≤ h.ws.length)=0:=resA_in hw (by omega)
 rw [e1.1,e1.2] at HS
 unfold FreshA at HS
 have HM:=Lib.hid m
 obtain ⟨b0,b1,b2,b3,f0,f1,f2,f3⟩:=id m.box
 have hMa:=m.a.row
 clear m e1
 go_enter Tryz.func105,Tryz.ntmps105
 go_wp2_with fail
 go_at_call 178
 refine (HS.out _ hMa).mono ?_
 rintro e w1 ⟨A1,c1,rfl,⟨o1,hc1⟩,hb_w1⟩
 have m1:=HM.out.later hb_w1
 have hs1:=hb_w1.size
 obtain ⟨d0,d1,d2,d3,g0,g1,g2,g3⟩:=id m1.box
 clear b0 b1 b2 b3 f0 f1 f2 f3
 have m2:=m1.setA (ca:=c1) (o1.mono (B':=B) (by omega)) (o1.apt hlt)
 have hb2:Below B w (w1.setCell ⟨b,0,none⟩ (.slice A1 (h.ws.set p x).length c1)):=(hb_w1.mono (by omega)).setCell (p:=⟨b,0,none⟩) hle _
 rw [List.length_set] at m2 hb2
 have M2:=Lib.hid m2
 clear m1 m2
 go_wp2
 go_end0
 exact ⟨rfl,⟨⟨A1,c1,v.U,v.cu,v.V,v.cv⟩,M2.out,rfl,rfl⟩,hb2⟩
theorem OwnsS.set1 {w:World} {B n cap g:Nat} {vs:List Sv} (h:OwnsS w B (some ⟨g,0,none⟩) n cap vs) (i j:Nat) (u:Value) (hi:i < n) (hj:j < 8) (x:Sv) (hx:∀ hv:i < vs.length,cells8 x=(cells8 vs[i]).set j u)
  (h1:Own w B x.A x.d.aw) (h2:Own w B x.M x.d.mw) (a1:x.A ≠ some ⟨g,0,none⟩) (a2:x.M ≠ some ⟨g,0,none⟩):OwnsS (w.setCell ⟨g,i * 8 + j,none⟩ u) B (some ⟨g,0,none⟩) n cap (vs.set i x):=by
 have hl:i < vs.length:=by rw [h.len];exact hi
 have hap:∀ y ∈ vs.set i x,y.A ≠ some ⟨g,0,none⟩∧y.M ≠ some ⟨g,0,none⟩:=fun y hy=>by
  rcases List.mem_or_eq_of_mem_set hy with hy | rfl
  ·exact h.apart y hy g rfl
  ·exact ⟨a1,a2⟩
 refine ⟨by rw [List.length_set];exact h.len,?_,fun y hy=>?_,fun y hy g' e=>?_⟩
 ·have:=(h.row_.stored (i * 8 + j) u).1
  rw [flat8_set vs i j x u hl hj (hx hl)] at this
  exact this
 ·rcases List.mem_or_eq_of_mem_set hy with hy | rfl
  ·exact ⟨(h.words y hy).1.oth (fun _=>(h.apart y hy g rfl).1) u,(h.words y hy).2.oth (fun _=>(h.apart y hy g rfl).2) u⟩
  ·exact ⟨h1.oth (fun _=>a1) u,h2.oth (fun _=>a2) u⟩
 ·injection e with e
  injection e with e
  subst e
  exact hap y hy
theorem Own.apt_span {w:World} {B g:Nat} {A:Option Addr} {ws:List Nat} (h:Own w B A ws) {f:Int} (hc:w.cell? ⟨g,0,none⟩=some (.int .i64 f)):Apt g A ws:=fun hl e=>by
 obtain ⟨q,e2,_,_,h3⟩:=h.at_ hl
 rw [e] at e2
 injection e2 with e2
 injection e2 with e2
 have:=(h3 0 hl).1
 rw [← e2,hc] at this
 injection this with this
 injection this with this
 cases this
theorem WB.setS {w w':World} {B b g:Nat} {v:Hv} {h:Hp} (m:WB w B b v h) (hV:v.V=some ⟨g,0,none⟩) {vs:List Sv} {l:List Sd} (hl:l.length=h.l.length) (hg:w.grownBy w' (some g)) (hs:OwnsS w' B v.V h.l.length v.cv vs) (he:sdsOf vs=l) (ha:AptS b v.V vs) {f:Int} (hc:w.cell? ⟨g,0,none⟩=some (.int .i64 f)) (hbg:b ≠ g) :
  WB w' B b v ⟨h.ws,h.n,h.us,l⟩:=by
 have ck:∀ (q o:Nat) (y:Value),q ≠ g → w.cell? ⟨q,o,none⟩=some y → w'.cell? ⟨q,o,none⟩=some y:=fun q o y hq hy=>(World.cell?_of_block (hg.block _ (World.block_lt_of_cell? _ _ hy) (by intro e;injection e with e;exact hq e))).trans hy
 have fk:∀ (q o:Nat) (y:Bool),q ≠ g → q < w.heap.size → w.frozen? ⟨q,o,none⟩=y → w'.frozen? ⟨q,o,none⟩=y:=fun q o y hq hl hy=>(World.frozen?_of_block (w:=w) (a:=⟨q,o,none⟩) (hg.block _ hl (by intro e;injection e with e;exact hq e))).trans hy
 have ok:∀ (A:Option Addr) (ws:List Nat),Own w B A ws → Own w' B A ws:=fun A ws o=>⟨o.words,fun h0=>by
  obtain ⟨q,e,h1,h2,h3⟩:=o.at_ h0
  have hq:q ≠ g:=fun e2=>o.apt_span hc h0 (by rw [e,e2])
  exact ⟨q,e,h1,Nat.lt_of_lt_of_le h2 hg.size,fun i hi=>⟨ck q i _ hq (h3 i hi).1,fk q i _ hq h2 (h3 i hi).2⟩⟩⟩
 have hbl:=m.lt
 have hx:=m.box
 refine ⟨?_,m.le,ok _ _ m.a,ok _ _ m.u,⟨vs,he,by show OwnsS w' B v.V l.length v.cv vs;rw [hl];exact hs,ha⟩,m.na,m.nu⟩
 show B4 w' b _ _ _ (.slice v.V l.length v.cv)
 rw [hl]
 exact ⟨ck _ _ _ hbg hx.c0,ck _ _ _ hbg hx.c1,ck _ _ _ hbg hx.c2,ck _ _ _ hbg hx.c3,fk _ _ _ hbg hbl hx.f0,fk _ _ _ hbg hbl hx.f1,fk _ _ _ hbg hbl hx.f2,fk _ _ _ hbg hbl hx.f3⟩
theorem WB.block {w:World} {B b:Nat} {v:Hv} {h:Hp} (m:WB w B b v h) {vs:List Sv} (hs:OwnsS w B v.V h.l.length v.cv vs) {i:Nat} (hi:i < h.l.length):∃ g,v.V=some ⟨g,0,none⟩∧B ≤ g∧g < w.heap.size:=by
 obtain ⟨_,⟨e1,e2⟩ | ⟨g,cap',cur,e,hgB,_⟩⟩:=id hs.row_
 ·omega
 ·injection e with e1 _ _
  exact ⟨g,e1,hgB,(hs.row_.lt g (by rw [e1];rfl)).2⟩
theorem WB.span {w:World} {B b:Nat} {v:Hv} {h:Hp} (m:WB w B b v h) {i:Nat} (hi:i < h.l.length) :
  ∃ g A ca M cm,v.V=some ⟨g,0,none⟩∧B ≤ g∧g < w.heap.size∧b ≠ g∧Sp8 w g (i * 8) (nth h.l i) A ca M cm∧Own w B A (nth h.l i).aw∧Own w B M (nth h.l i).mw∧(∀ j,w.frozen? ⟨g,j,none⟩=false)∧∃ f0:Int,w.cell? ⟨g,0,none⟩=some (.int .i64 f0):=by
 obtain ⟨vs,hvs,hS,hAS⟩:=m.s
 obtain ⟨g,hV,hgB,hgl⟩:=m.block hS hi
 have hil:i < vs.length:=by have:=hS.len;omega
 have hd:vs[i].d=nth h.l i:=by rw [← hvs];exact (nth_sds vs i hil).symm
 have hwo:=hS.words _ (List.getElem_mem hil)
 rw [hV] at hS
 have c8:=sp8_of_owns hS.row_ hS.len i hi
 rw [hd,Nat.zero_add] at c8
 rw [hd] at hwo
 exact ⟨g,_,_,_,_,hV,hgB,hgl,fun e=>hAS.1 (by rw [hV,e]),c8,hwo.1,hwo.2,fun j=>hS.row_.frozenAt j,_,flat8_cell hS.row_ hS.len 0 (by omega) 0 (by omega) _ rfl⟩
theorem WB.set8 {w:World} {B b g:Nat} {v:Hv} {h:Hp} (m:WB w B b v h) (hV:v.V=some ⟨g,0,none⟩) {i j:Nat} {u:Value} (hi:i < h.l.length) (hj:j < 8) (d':Sd) (haw:d'.aw=(nth h.l i).aw) (hmw:d'.mw=(nth h.l i).mw)
  (hx:∀ A ca M cm,cells8 ⟨d',A,ca,M,cm⟩=(cells8 ⟨nth h.l i,A,ca,M,cm⟩).set j u):WB (w.setCell ⟨g,i * 8 + j,none⟩ u) B b v (setL h i d'):=by
 obtain ⟨vs,hvs,hS,hAS⟩:=m.s
 have hil:i < vs.length:=by have:=hS.len;omega
 have hd:vs[i].d=nth h.l i:=by rw [← hvs];exact (nth_sds vs i hil).symm
 have hmem:vs[i] ∈ vs:=List.getElem_mem hil
 have hwo:=hS.words _ hmem
 have hbg:b ≠ g:=fun e=>hAS.1 (by rw [hV,e])
 have hS':=hS
 rw [hV] at hS'
 have hap:=hS'.apart _ hmem g rfl
 have hc0:=flat8_cell hS'.row_ hS'.len 0 (by omega) 0 (by omega) _ rfl
 rw [hd] at hwo
 have s1:=hS'.set1 i j u hi hj ⟨d',vs[i].A,vs[i].ca,vs[i].M,vs[i].cm⟩ (fun hv=>by rw [hx];rw [← hd]) (by rw [haw];exact hwo.1) (by rw [hmw];exact hwo.2) hap.1 hap.2
 refine m.setS hV (vs:=vs.set i ⟨d',vs[i].A,vs[i].ca,vs[i].M,vs[i].cm⟩) (l:=h.l.set i d') (by simp) (grown_setg w g (i * 8 + j) u) (by rw [hV];exact s1) ?_ ⟨hAS.1,fun y hy=>?_⟩ hc0 hbg
 ·unfold sdsOf at hvs ⊢
  rw [List.map_set,hvs]
 ·rcases List.mem_or_eq_of_mem_set hy with hy | rfl
  ·exact hAS.2 y hy
  ·have:=hAS.2 _ hmem
   rw [hd] at this
   exact ⟨by rw [haw];exact this.1,by rw [hmw];exact this.2⟩
theorem WB.setM {w:World} {B b g:Nat} {v:Hv} {h:Hp} (m:WB w B b v h) (hV:v.V=some ⟨g,0,none⟩) {i:Nat} (hi:i < h.l.length) {M':Option Addr} {cm':Nat} {mw':List Nat} (o:Own w B M' mw') (nb:Apt b M' mw') (ng:Apt g M' mw') (hl:0 < mw'.length) :
  WB ((w.setCell ⟨g,i * 8 + 5,none⟩ (.int .i64 (nth h.l i).mn)).setCell ⟨g,i * 8 + 6,none⟩ (.slice M' mw'.length cm')) B b v (setL h i ⟨(nth h.l i).f,(nth h.l i).p,(nth h.l i).z,(nth h.l i).an,(nth h.l i).aw,(nth h.l i).mn,mw',(nth h.l i).s⟩):=by
 obtain ⟨vs,hvs,hS,hAS⟩:=m.s
 have hil:i < vs.length:=by have:=hS.len;omega
 have hd:vs[i].d=nth h.l i:=by rw [← hvs];exact (nth_sds vs i hil).symm
 have hmem:vs[i] ∈ vs:=List.getElem_mem hil
 have hwo:=hS.words _ hmem
 have hbg:b ≠ g:=fun e=>hAS.1 (by rw [hV,e])
 have hS':=hS
 rw [hV] at hS'
 have hap:=hS'.apart _ hmem g rfl
 have hc0:=flat8_cell hS'.row_ hS'.len 0 (by omega) 0 (by omega) _ rfl
 have s1:=hS'.set1 i 5 (.int .i64 (nth h.l i).mn) hi (by omega) vs[i] (fun hv=>by rw [← hd];rfl) hwo.1 hwo.2 hap.1 hap.2
 rw [List.set_getElem_self] at s1
 have hwo2:=s1.words _ hmem
 rw [hd] at hwo2
 have s2:=s1.set1 i 6 (.slice M' mw'.length cm') hi (by omega) ⟨⟨(nth h.l i).f,(nth h.l i).p,(nth h.l i).z,(nth h.l i).an,(nth h.l i).aw,(nth h.l i).mn,mw',(nth h.l i).s⟩,vs[i].A,vs[i].ca,M',cm'⟩ (fun hv=>by rw [← hd];rfl)
  hwo2.1 (o.oth (p:=⟨g,i * 8 + 5,none⟩) ng _) hap.1 (ng hl)
 refine m.setS hV (vs:=vs.set i ⟨⟨(nth h.l i).f,(nth h.l i).p,(nth h.l i).z,(nth h.l i).an,(nth h.l i).aw,(nth h.l i).mn,mw',(nth h.l i).s⟩,vs[i].A,vs[i].ca,M',cm'⟩) (l:=h.l.set i _) (by simp) (grown_trans (grown_setg w g (i * 8 + 5) (.int .i64 (nth h.l i).mn)) (grown_setg _ g (i * 8 + 6) (.slice M' mw'.length cm'))) (by rw [hV];exact s2) ?_ ⟨hAS.1,fun y hy=>?_⟩ hc0 hbg
 ·unfold sdsOf at hvs ⊢
  rw [List.map_set,hvs]
 ·rcases List.mem_or_eq_of_mem_set hy with hy | rfl
  ·exact hAS.2 y hy
  ·exact ⟨by rw [← hd];exact (hAS.2 _ hmem).1,nb⟩
theorem WB.setL_ {w:World} {B b g:Nat} {v:Hv} {h:Hp} (m:WB w B b v h) (hV:v.V=some ⟨g,0,none⟩) {i:Nat} (hi:i < h.l.length) {A':Option Addr} {ca':Nat} {aw':List Nat} (o:Own w B A' aw') (nb:Apt b A' aw') (ng:Apt g A' aw') (hl:0 < aw'.length) :
  WB ((w.setCell ⟨g,i * 8 + 3,none⟩ (.int .i64 (nth h.l i).an)).setCell ⟨g,i * 8 + 4,none⟩ (.slice A' aw'.length ca')) B b v (setL h i ⟨(nth h.l i).f,(nth h.l i).p,(nth h.l i).z,(nth h.l i).an,aw',(nth h.l i).mn,(nth h.l i).mw,(nth h.l i).s⟩):=by
 obtain ⟨vs,hvs,hS,hAS⟩:=m.s
 have hil:i < vs.length:=by have:=hS.len;omega
 have hd:vs[i].d=nth h.l i:=by rw [← hvs];exact (nth_sds vs i hil).symm
 have hmem:vs[i] ∈ vs:=List.getElem_mem hil
 have hwo:=hS.words _ hmem
 have hbg:b ≠ g:=fun e=>hAS.1 (by rw [hV,e])
 have hS':=hS
 rw [hV] at hS'
 have hap:=hS'.apart _ hmem g rfl
 have hc0:=flat8_cell hS'.row_ hS'.len 0 (by omega) 0 (by omega) _ rfl
 have s1:=hS'.set1 i 3 (.int .i64 (nth h.l i).an) hi (by omega) vs[i] (fun hv=>by rw [← hd];rfl) hwo.1 hwo.2 hap.1 hap.2
 rw [List.set_getElem_self] at s1
 have hwo2:=s1.words _ hmem
 rw [hd] at hwo2
 have s2:=s1.set1 i 4 (.slice A' aw'.length ca') hi (by omega) ⟨⟨(nth h.l i).f,(nth h.l i).p,(nth h.l i).z,(nth h.l i).an,aw',(nth h.l i).mn,(nth h.l i).mw,(nth h.l i).s⟩,A',ca',vs[i].M,vs[i].cm⟩ (fun hv=>by rw [← hd];rfl)
  (o.oth (p:=⟨g,i * 8 + 3,none⟩) ng _) hwo2.2 (ng hl) hap.2
 refine m.setS hV (vs:=vs.set i ⟨⟨(nth h.l i).f,(nth h.l i).p,(nth h.l i).z,(nth h.l i).an,aw',(nth h.l i).mn,(nth h.l i).mw,(nth h.l i).s⟩,A',ca',vs[i].M,vs[i].cm⟩) (l:=h.l.set i _) (by simp) (grown_trans (grown_setg w g (i * 8 + 3) (.int .i64 (nth h.l i).an)) (grown_setg _ g (i * 8 + 4) (.slice A' aw'.length ca'))) (by rw [hV];exact s2) ?_ ⟨hAS.1,fun y hy=>?_⟩ hc0 hbg
 ·unfold sdsOf at hvs ⊢
  rw [List.map_set,hvs]
 ·rcases List.mem_or_eq_of_mem_set hy with hy | rfl
  ·exact hAS.2 y hy
  ·exact ⟨nb,by rw [← hd];exact (hAS.2 _ hmem).2⟩
theorem eg_swept1:∀ args w,(callFunc 181 args).run Tryz.prog w=.ok (.enter 181 args) w:=enters_of Tryz.func181 (by kernel_rfl) rfl
theorem eg_spanat1:∀ args w,(callFunc 189 args).run Tryz.prog w=.ok (.enter 189 args) w:=enters_of Tryz.func189 (by kernel_rfl) rfl
theorem zswept1_any {w:World} {d:Sd} {A M:Option Addr} (ca cm:Nat):Calls Tryz.prog 181 #[spv d A ca M cm] w fun e w'=>e=.returned (.bool (!d.s))∧Below w.heap.size w w':=by
 obtain ⟨f,p,z,an,aw,mn,mw,s⟩:=d
 unfold spv
 simp only at *
 go_enter Tryz.func181,Tryz.ntmps181
 go_wp2
 go_ret
 exact ⟨rfl,bX⟩
theorem zspanat1_any {w:World} {d:Sd} {A M:Option Addr} (ca cm:Nat) (first:Int) (B:Nat) (hB:w.cell? ⟨B,0,none⟩=some (.int .i64 first)):Calls Tryz.prog 189 #[spv d A ca M cm,.pointer (some ⟨B,0,none⟩)] w fun e w'=>e=.returned (.bool (d.f == first))∧Below w.heap.size w w':=by
 have hlt:=World.block_lt_of_cell? w _ hB
 obtain ⟨f,p,z,an,aw,mn,mw,s⟩:=d
 unfold spv
 simp only at *
 have k0:(w.alloc (.cells #[.int .i64 f,.int .i64 p,.int .i64 z,.int .i64 an,.slice A aw.length ca,.int .i64 mn,.slice M mw.length cm,.bool s] 72)).cell? ⟨B,0,none⟩=some (.int .i64 first):=(World.cell?_alloc_lt _ _ ⟨_,_,_⟩ hlt).trans hB
 go_enter Tryz.func189,Tryz.ntmps189
 go_wp2
 go_ret
 exact ⟨rfl,bX⟩
theorem says_swept1 {w:World} (l:List Sd):Says 181 #[] l (fun d=>!d.s) w:=fun W i A M ca cm hb hi hA hM=>by
 simpa using zswept1_any (w:=W) (d:=nth l i) (A:=A) (M:=M) ca cm
theorem says_spanat1 {w:World} (l:List Sd) (first:Int) (B:Nat) (hB:w.cell? ⟨B,0,none⟩=some (.int .i64 first)):Says 189 #[.pointer (some ⟨B,0,none⟩)] l (fun d=>d.f == first) w:=fun W i A M ca cm hb hi hA hM=>
 zspanat1_any (w:=W) (d:=nth l i) (A:=A) (M:=M) ca cm first B ((hb.cell (p:=⟨B,0,none⟩) (World.block_lt_of_cell? w _ hB)).trans hB)
section
variable {w:World} {n:Int} {A U V:Option Addr} {l:List Sd} (na ca nu cu cv:Nat)
theorem zswept_any (hv:SRow w w.heap.size V l) (hl:l.length ≤ 17592186044416) (b:Bool) (hb:b=true ↔ ∀ j,j < l.length → (nth l j).s=true) :
  Calls Tryz.prog 109 #[hpv A na ca n U nu cu V l.length cv] w fun e w'=>e=.returned (.bool b)∧Below w.heap.size w w':=by
 obtain ⟨r,hr⟩:=IdxE.ex l (fun d=>!d.s)
 have HI:=Lib.hid fun (w:World) hv=>sindex_any (w:=w) (A:=V) (l:=l) cv 181 #[] (fun d=>!d.s) eg_swept1 hv hl (says_swept1 l) r hr
 have hc:(b=true∧r=-1) ∨ (b=false∧0 ≤ r):=by
  rcases hr with ⟨h1,h2⟩ | ⟨i,h1,h2,h3,_⟩
  ·refine .inl ⟨hb.2 fun j hj=>?_,h1⟩
   have:=h2 j hj
   simpa using this
  ·refine .inr ⟨?_,by omega⟩
   rcases b with _ | _
   ·rfl
   ·have:=hb.1 rfl i h2
    simp [this] at h3
 clear hb hr
 unfold hpv
 rcases hc with ⟨rfl,rfl⟩ | ⟨rfl,hr0⟩
 ·have HC:∀ (w:World) (hv:SRow w w.heap.size V l),Calls Tryz.prog 180 #[.slice V l.length cv,.func (.func 181) #[] #[]] w fun e w'=>e=.returned (.bool false)∧Below w.heap.size w w':=by
   intro w hv
   go_enter Tryz.func180,Tryz.ntmps180
   go_wp2_with (go_at_call 188;refine (HI.out _ (hv.later bX)).mono ?_;rintro e w1 ⟨rfl,hb_w1⟩;obtain ⟨hc_w1,hf_w1⟩:=bcell hb_w1;have hs_w1:=hb_w1.size;(try simp only [zZ] at hs_w1))
   go_ret
   exact ⟨rfl,bX⟩
  go_enter Tryz.func109,Tryz.ntmps109
  go_wp2_with (go_at_call 180;refine (HC _ (hv.later bX)).mono ?_;rintro e w1 ⟨rfl,hb_w1⟩;obtain ⟨hc_w1,hf_w1⟩:=bcell hb_w1;have hz_w1_w_0:w.heap.size < w1.heap.size:=lY hb_w1.size;have hs_w1:=hb_w1.size;(try simp only [zZ] at hs_w1))
  go_ret
  exact ⟨rfl,bX⟩
 ·have hd:decide (0 ≤ r)=true:=decide_eq_true hr0
  have HC:∀ (w:World) (hv:SRow w w.heap.size V l),Calls Tryz.prog 180 #[.slice V l.length cv,.func (.func 181) #[] #[]] w fun e w'=>e=.returned (.bool true)∧Below w.heap.size w w':=by
   intro w hv
   go_enter Tryz.func180,Tryz.ntmps180
   go_wp2_with (go_at_call 188;refine (HI.out _ (hv.later bX)).mono ?_;rintro e w1 ⟨rfl,hb_w1⟩;obtain ⟨hc_w1,hf_w1⟩:=bcell hb_w1;have hs_w1:=hb_w1.size;(try simp only [zZ] at hs_w1))
   go_ret
   exact ⟨by first | rfl | (rw [hd]),bX⟩
  go_enter Tryz.func109,Tryz.ntmps109
  go_wp2_with (go_at_call 180;refine (HC _ (hv.later bX)).mono ?_;rintro e w1 ⟨rfl,hb_w1⟩;obtain ⟨hc_w1,hf_w1⟩:=bcell hb_w1;have hz_w1_w_0:w.heap.size < w1.heap.size:=lY hb_w1.size;have hs_w1:=hb_w1.size;(try simp only [zZ] at hs_w1))
  go_ret
  exact ⟨rfl,bX⟩
theorem zspanat_any (hv:SRow w w.heap.size V l) (hl:l.length ≤ 17592186044416) (first r:Int) (hI:IdxE l (fun d=>d.f == first) r) :
  Calls Tryz.prog 116 #[hpv A na ca n U nu cu V l.length cv,.int .i64 first] w fun e w'=>e=.returned (.int .i64 r)∧Below w.heap.size w w':=by
 have HS:=Lib.hid fun (w:World) (B:Nat) hB hv=>sindex_any (w:=w) (A:=V) (l:=l) cv 189 #[.pointer (some ⟨B,0,none⟩)] (fun d=>d.f == first) eg_spanat1 hv hl (says_spanat1 l first B hB) r hI
 have hmf:∀ (fn:Fn) (first cap:Array Value) (w:World),(Instr.makeFunc fn first cap).run Tryz.prog w=.ok (.func fn first cap) w:=fun _ _ _ _=>rfl
 clear hI
 unfold hpv
 go_enter Tryz.func116,Tryz.ntmps116
 go_wp2_with fail
 go_at_call 188
 refine (HS.out _ (w.heap.size + 1) (by simp [go_sem]) (hv.later bX)).mono ?_
 rintro e w1 ⟨rfl,hb_w1⟩
 obtain ⟨hc_w1,hf_w1⟩:=bcell hb_w1;have hz_w1_w_0:w.heap.size < w1.heap.size:=lY hb_w1.size;have hz_w1_w_1:w.heap.size + 1 < w1.heap.size:=lY hb_w1.size;have hs_w1:=hb_w1.size;(try simp only [zZ] at hs_w1)
 go_wp2
 go_ret
 exact ⟨rfl,bX⟩
end
structure B6 (w:World) (b:Nat) (o:Ob):Prop where
 c0:w.cell? ⟨b,0,none⟩=some (.int .u64 o.a)
 c1:w.cell? ⟨b,1,none⟩=some (.int .i64 o.n)
 c2:w.cell? ⟨b,2,none⟩=some (.int .u64 o.m)
 c3:w.cell? ⟨b,3,none⟩=some (.int .i64 o.i)
 c4:w.cell? ⟨b,4,none⟩=some (.int .i64 o.k)
 c5:w.cell? ⟨b,5,none⟩=some (.bool o.b)
 f0:w.frozen? ⟨b,0,none⟩=false
 f1:w.frozen? ⟨b,1,none⟩=false
 f2:w.frozen? ⟨b,2,none⟩=false
 f3:w.frozen? ⟨b,3,none⟩=false
 f4:w.frozen? ⟨b,4,none⟩=false
 f5:w.frozen? ⟨b,5,none⟩=false
theorem B6.lt {w:World} {b:Nat} {o:Ob} (h:B6 w b o):b < w.heap.size:=World.block_lt_of_cell? w _ h.c0
theorem B6.below {w w':World} {b B:Nat} {o:Ob} (h:B6 w b o) (hb:Below B w w') (hB:b < B):B6 w' b o:=⟨((bcell hb).1 _ _ hB).trans h.c0,((bcell hb).1 _ _ hB).trans h.c1,((bcell hb).1 _ _ hB).trans h.c2,((bcell hb).1 _ _ hB).trans h.c3,((bcell hb).1 _ _ hB).trans h.c4,((bcell hb).1 _ _ hB).trans h.c5,((bcell hb).2 _ _ hB).trans h.f0,((bcell hb).2 _ _ hB).trans h.f1,((bcell hb).2 _ _ hB).trans h.f2,((bcell hb).2 _ _ hB).trans h.f3,((bcell hb).2 _ _ hB).trans h.f4,((bcell hb).2 _ _ hB).trans h.f5⟩
theorem B6.later {w w':World} {b:Nat} {o:Ob} (h:B6 w b o) (hb:Below w.heap.size w w'):B6 w' b o:=h.below hb h.lt
theorem B6.new (w:World) (o:Ob) (t:TypeId):B6 (w.alloc (.cells #[.int .u64 o.a,.int .i64 o.n,.int .u64 o.m,.int .i64 o.i,.int .i64 o.k,.bool o.b] t)) w.heap.size o:=by constructor <;> simp [go_sem]
theorem B6.set1 {w:World} {b:Nat} {o o':Ob} (h:B6 w b o):B6 ((((((w.setCell ⟨b,0,none⟩ (.int .u64 o'.a)).setCell ⟨b,1,none⟩ (.int .i64 o'.n)).setCell ⟨b,2,none⟩ (.int .u64 o'.m)).setCell ⟨b,3,none⟩ (.int .i64 o'.i)).setCell ⟨b,4,none⟩ (.int .i64 o'.k)).setCell ⟨b,5,none⟩ (.bool o'.b)) b o':=by
 have h0:=h.c0
 have h1:=h.c1
 have h2:=h.c2
 have h3:=h.c3
 have h4:=h.c4
 have h5:=h.c5
 exact ⟨(cO _ ⟨b,5,none⟩ ⟨b,0,none⟩ _ (by simp)).trans ((cO _ ⟨b,4,none⟩ ⟨b,0,none⟩ _ (by simp)).trans ((cO _ ⟨b,3,none⟩ ⟨b,0,none⟩ _ (by simp)).trans ((cO _ ⟨b,2,none⟩ ⟨b,0,none⟩ _ (by simp)).trans ((cO _ ⟨b,1,none⟩ ⟨b,0,none⟩ _ (by simp)).trans (World.cell?_setCell_same _ _ _ (h0)))))),(cO _ ⟨b,5,none⟩ ⟨b,1,none⟩ _ (by simp)).trans ((cO _ ⟨b,4,none⟩ ⟨b,1,none⟩ _ (by simp)).trans ((cO _ ⟨b,3,none⟩ ⟨b,1,none⟩ _ (by simp)).trans ((cO _ ⟨b,2,none⟩ ⟨b,1,none⟩ _ (by simp)).trans (World.cell?_setCell_same _ _ _ ((cO _ ⟨b,0,none⟩ ⟨b,1,none⟩ _ (by simp)).trans (h1)))))),(cO _ ⟨b,5,none⟩ ⟨b,2,none⟩ _ (by simp)).trans ((cO _ ⟨b,4,none⟩ ⟨b,2,none⟩ _ (by simp)).trans ((cO _ ⟨b,3,none⟩ ⟨b,2,none⟩ _ (by simp)).trans (World.cell?_setCell_same _ _ _ ((cO _ ⟨b,1,none⟩ ⟨b,2,none⟩ _ (by simp)).trans ((cO _ ⟨b,0,none⟩ ⟨b,2,none⟩ _ (by simp)).trans (h2)))))),(cO _ ⟨b,5,none⟩ ⟨b,3,none⟩ _ (by simp)).trans ((cO _ ⟨b,4,none⟩ ⟨b,3,none⟩ _ (by simp)).trans (World.cell?_setCell_same _ _ _ ((cO _ ⟨b,2,none⟩ ⟨b,3,none⟩ _ (by simp)).trans ((cO _ ⟨b,1,none⟩ ⟨b,3,none⟩ _ (by simp)).trans ((cO _ ⟨b,0,none⟩ ⟨b,3,none⟩ _ (by simp)).trans (h3)))))),(cO _ ⟨b,5,none⟩ ⟨b,4,none⟩ _ (by simp)).trans (World.cell?_setCell_same _ _ _ ((cO _ ⟨b,3,none⟩ ⟨b,4,none⟩ _ (by simp)).trans ((cO _ ⟨b,2,none⟩ ⟨b,4,none⟩ _ (by simp)).trans ((cO _ ⟨b,1,none⟩ ⟨b,4,none⟩ _ (by simp)).trans ((cO _ ⟨b,0,none⟩ ⟨b,4,none⟩ _ (by simp)).trans (h4)))))),World.cell?_setCell_same _ _ _ ((cO _ ⟨b,4,none⟩ ⟨b,5,none⟩ _ (by simp)).trans ((cO _ ⟨b,3,none⟩ ⟨b,5,none⟩ _ (by simp)).trans ((cO _ ⟨b,2,none⟩ ⟨b,5,none⟩ _ (by simp)).trans ((cO _ ⟨b,1,none⟩ ⟨b,5,none⟩ _ (by simp)).trans ((cO _ ⟨b,0,none⟩ ⟨b,5,none⟩ _ (by simp)).trans (h5)))))),by simp only [World.frozen?_setCell];exact h.f0,by simp only [World.frozen?_setCell];exact h.f1,by simp only [World.frozen?_setCell];exact h.f2,by simp only [World.frozen?_setCell];exact h.f3,by simp only [World.frozen?_setCell];exact h.f4,by simp only [World.frozen?_setCell];exact h.f5⟩
theorem Rdx.far {B:Nat} {a b:World} {g:Nat} {v:Hv} {h:Hp} {Q:Nat → Prop} (r:Rdx B a b g v h Q) {k:Nat} (hg:g < k) (hQ:¬ Q k) (hk:k < B) (ha:a.heap.size ≤ k) {j:Nat} (u:Value):Rdx B a (b.setCell ⟨k,j,none⟩ u) g v h Q:=by
 obtain ⟨L,N,h1,h2⟩:=r.rd
 refine ⟨?_,L,N,h1.far hg (fun hq=>?_) u,h2⟩
 ·have h3:=r.grown
  exact ⟨h3.os,h3.tape,h3.output,by rw [World.size_setCell];exact h3.size,fun i hi hn=>(Below.heap_setCell _ _ _ i (by show i ≠ k;omega)).trans (h3.block i hi hn)⟩
 ·rcases h2 k hq with h3 | h3
  ·exact hQ h3
  ·omega
def SrE (h:Hp) (a:Nat) (f:Int) (x:Nat) (r:Bool) (y:Int):Prop:=(fnY h a ≠ 0∧y=fnY h a) ∨ (fnY h a=0∧¬ (0 ≤ f∧f < (fnO h a).n)∧y=9) ∨
 (fnY h a=0∧(0 ≤ f∧f < (fnO h a).n)∧(fnO h a).m.testBit f.toNat ≠ r∧y=8) ∨ (fnY h a=0∧(0 ≤ f∧f < (fnO h a).n)∧(fnO h a).m.testBit f.toNat=r∧r=true∧exB h x=false∧y=10) ∨
 (fnY h a=0∧(0 ≤ f∧f < (fnO h a).n)∧(fnO h a).m.testBit f.toNat=r∧(r=true → exB h x=true)∧y=0)
theorem SrE.ex (h:Hp) (a:Nat) (f:Int) (x:Nat) (r:Bool):∃ y,SrE h a f x r y:=by
 by_cases h1:fnY h a=0
 ·by_cases h2:0 ≤ f∧f < (fnO h a).n
  ·by_cases h3:(fnO h a).m.testBit f.toNat=r
   ·by_cases h4:r=true → exB h x=true
    ·exact ⟨_,.inr (.inr (.inr (.inr ⟨h1,h2,h3,h4,rfl⟩)))⟩
    ·refine ⟨_,.inr (.inr (.inr (.inl ⟨h1,h2,h3,?_,?_,rfl⟩)))⟩
     ·rcases r with _ | _
      ·exact absurd (fun e=>(by cases e)) h4
      ·rfl
     ·rcases he:exB h x with _ | _
      ·rfl
      ·exact absurd (fun _=>he) h4
   ·exact ⟨_,.inr (.inr (.inl ⟨h1,h2,h3,rfl⟩))⟩
  ·exact ⟨_,.inr (.inl ⟨h1,h2,rfl⟩)⟩
 ·exact ⟨_,.inl ⟨h1,rfl⟩⟩
def hitsS (s d:Sd):Bool:=decide (s.f < d.f + d.p)
def PosE (l:List Sd) (s:Sd) (n:Nat):Prop:=(IdxE l (hitsS s) (-1)∧n=l.length) ∨ IdxE l (hitsS s) (n:Nat)
theorem PosE.ex (l:List Sd) (s:Sd):∃ n,PosE l s n:=by
 obtain ⟨x,hx⟩:=IdxE.ex l (hitsS s)
 rcases hx with ⟨rfl,h2⟩ | ⟨i,rfl,h2⟩
 ·exact ⟨_,.inl ⟨.inl ⟨rfl,h2⟩,rfl⟩⟩
 ·exact ⟨i,.inr (.inr ⟨i,rfl,h2⟩)⟩
theorem PosE.le {l:List Sd} {s:Sd} {n:Nat} (h:PosE l s n):n ≤ l.length:=by
 rcases h with ⟨_,h⟩ | h
 ·omega
 ·exact Nat.le_of_lt h.lt
def Clash (l:List Sd) (s:Sd) (n:Nat):Prop:=n < l.length∧(nth l n).f < s.f + s.p
def AddE (l:List Sd) (s:Sd) (r:List Sd) (y:Int):Prop:=(¬ OkL l∧r=[]∧y=2) ∨ (OkL l∧¬ Ok1 s∧r=[]∧y=2) ∨
 ∃ n,OkL l∧Ok1 s∧PosE l s n∧((Clash l s n∧r=l∧y=4) ∨ (¬ Clash l s n∧l.length=256∧r=l∧y=6) ∨ (¬ Clash l s n∧l.length < 256∧r=l.take n ++ [s] ++ l.drop n∧y=0))
theorem AddE.ex (l:List Sd) (s:Sd):∃ r y,AddE l s r y:=by
 by_cases h:OkL l
 ·by_cases h1:Ok1 s
  ·obtain ⟨n,hn⟩:=PosE.ex l s
   by_cases h2:Clash l s n
   ·exact ⟨_,_,.inr (.inr ⟨n,h,h1,hn,.inl ⟨h2,rfl,rfl⟩⟩)⟩
   ·by_cases h3:l.length < 256
    ·exact ⟨_,_,.inr (.inr ⟨n,h,h1,hn,.inr (.inr ⟨h2,h3,rfl,rfl⟩)⟩)⟩
    ·exact ⟨_,_,.inr (.inr ⟨n,h,h1,hn,.inr (.inl ⟨h2,by have:=h.1;omega,rfl,rfl⟩)⟩)⟩
  ·exact ⟨_,_,.inr (.inl ⟨h,h1,rfl,rfl⟩)⟩
 ·exact ⟨_,_,.inl ⟨h,rfl,rfl⟩⟩
theorem says_add1 {w:World} {l:List Sd} (s:Sd) (B:Nat) (hok:OkL l) (hB:w.cell? ⟨B,0,none⟩=some (.int .i64 s.f)):Says 260 #[.pointer (some ⟨B,0,none⟩)] l (hitsS s) w:=
 fun W i A M ca cm hb hi hA hM=>sadd1_any ca cm s.f B (hok.2.1 i hi) ((hb.cell (p:=⟨B,0,none⟩) (World.block_lt_of_cell? w _ hB)).trans hB)
section
variable {w:World} {A As Ms:Option Addr} {l:List Sd} (cap ca cm:Nat)
set_option maxHeartbeats 4000000 in
theorem sadd_bad (hr:SRow w w.heap.size A l) (hl:l.length ≤ 17592186044416) (d:Sd) (hA:Row w w.heap.size As d.aw) (hM:Row w w.heap.size Ms d.mw) (hE:¬ OkL l ∨ (OkL l∧¬ Ok1 d)) :
  Calls Tryz.prog 227 #[.slice A l.length cap,spv d As ca Ms cm] w fun e w'=>FreshL5 w [] 2 e w':=by
 unfold FreshL5
 rcases hE with h | ⟨h,h1⟩
 ·have C:=Lib.hid fun (w:World) hr=>scheck_any (w:=w) (A:=A) (l:=l) cap hr hl 2 (.inr ⟨h,rfl⟩)
  clear h
  obtain ⟨f,p,z,an,aw,mn,mw,s⟩:=d
  unfold spv
  simp only at *
  go_enter Tryz.func227,Tryz.ntmps227
  go_wp2_with fail
  go_at_call 217
  refine (C.out _ (hr.later bX)).mono ?_
  rintro e w1 ⟨rfl,hb_w1⟩
  obtain ⟨hc_w1,hf_w1⟩:=bcell hb_w1;have hz_w1_w_0:w.heap.size < w1.heap.size:=lY hb_w1.size;have hs_w1:=hb_w1.size;(try simp only [zZ] at hs_w1)
  go_wp2
  go_ret2
  exact ⟨none,0,[],rfl,rfl,OwnsS.nil _ _,bX⟩
 ·have C:=Lib.hid fun (w:World) hr=>scheck_any (w:=w) (A:=A) (l:=l) cap hr hl 0 (.inl ⟨h,rfl⟩)
  have V:=Lib.hid fun (w:World) (g:Nat) (hg:w.heap.size=g) hA hM (t:TypeId)=>scheck1_any (w:=w) (d:=d) (A:=As) (M:=Ms) ca cm hg hA hM 2 (.inr ⟨h1,rfl⟩) t
  clear h h1
  obtain ⟨f,p,z,an,aw,mn,mw,s⟩:=d
  unfold spv
  simp only at *
  go_enter Tryz.func227,Tryz.ntmps227
  go_wp2_with fail
  go_at_call 217
  refine (C.out _ (hr.later bX)).mono ?_
  rintro e w1 ⟨rfl,hb_w1⟩
  obtain ⟨hc_w1,hf_w1⟩:=bcell hb_w1;have hz_w1_w_0:w.heap.size < w1.heap.size:=lY hb_w1.size;have hs_w1:=hb_w1.size;(try simp only [zZ] at hs_w1)
  have b1:Below w.heap.size w w1:=bX
  have qw10:w1.cell? ⟨w.heap.size,0,none⟩=some (.int .i64 f):=(hc_w1 _ _ lX).trans (by simp [go_sem])
  have qw11:w1.cell? ⟨w.heap.size,1,none⟩=some (.int .i64 p):=(hc_w1 _ _ lX).trans (by simp [go_sem])
  have qw12:w1.cell? ⟨w.heap.size,2,none⟩=some (.int .i64 z):=(hc_w1 _ _ lX).trans (by simp [go_sem])
  have qw13:w1.cell? ⟨w.heap.size,3,none⟩=some (.int .i64 an):=(hc_w1 _ _ lX).trans (by simp [go_sem])
  have qw14:w1.cell? ⟨w.heap.size,4,none⟩=some (.slice As aw.length ca):=(hc_w1 _ _ lX).trans (by simp [go_sem])
  have qw15:w1.cell? ⟨w.heap.size,5,none⟩=some (.int .i64 mn):=(hc_w1 _ _ lX).trans (by simp [go_sem])
  have qw16:w1.cell? ⟨w.heap.size,6,none⟩=some (.slice Ms mw.length cm):=(hc_w1 _ _ lX).trans (by simp [go_sem])
  have qw17:w1.cell? ⟨w.heap.size,7,none⟩=some (.bool s):=(hc_w1 _ _ lX).trans (by simp [go_sem])
  go_wp2_with fail
  go_at_call 217
  refine (V.out _ _ rfl (hA.later b1) (hM.later b1) _).mono ?_
  rintro e w2 ⟨rfl,hb_w2⟩
  have hs2:=hb_w2.size
  (try simp only [zA] at hs2)
  go_wp2
  go_ret2
  exact ⟨none,0,[],rfl,rfl,OwnsS.nil _ _,bX⟩
end
section
variable {w:World} {A As Ms:Option Addr} {l:List Sd} (cap ca cm:Nat)
set_option maxHeartbeats 8000000 in
theorem sadd_clash (hr:SRow w w.heap.size A l) (hcl:l.length ≤ cap) (hnil:A=none → cap=0) (d:Sd) (hA:Row w w.heap.size As d.aw) (hM:Row w w.heap.size Ms d.mw) (h:OkL l) (h1:Ok1 d) (i:Nat) (hI:IdxE l (hitsS d) (i:Nat)) (hc:(nth l i).f < d.f + d.p) :
  Calls Tryz.prog 227 #[.slice A l.length cap,spv d As ca Ms cm] w fun e w'=>FreshL5 w l 4 e w':=by
 unfold FreshL5
 have hl:l.length ≤ 17592186044416:=by have:=h.1;omega
 have C:=Lib.hid fun (w:World) hr=>scheck_any (w:=w) (A:=A) (l:=l) cap hr hl 0 (.inl ⟨h,rfl⟩)
 have V:=Lib.hid fun (w:World) (g:Nat) (hg:w.heap.size=g) hA hM (t:TypeId)=>scheck1_any (w:=w) (d:=d) (A:=As) (M:=Ms) ca cm hg hA hM 0 (.inl ⟨h1,rfl⟩) t
 have HI:=Lib.hid hI
 have HW:=Lib.hid h.words
 have HO:=Lib.hid h
 have hok256:=h.1
 have HSY:=Lib.hid fun (w:World) B hB=>says_add1 (w:=w) (l:=l) d B HO.out hB
 have hsl:=h1.sized.slots
 have hpl:=h1.placed
 unfold Placed at hpl
 have G:=Lib.hid fun (w:World)=>sbehind_any (w:=w) d As ca Ms cm (by omega) (by omega)
 have hw1:Hid (d.aw.length=1∧d.mw.length=1):=Lib.hid ⟨h1.aw,h1.mw⟩
 have hil:=hI.lt
 obtain ⟨ff,hff⟩:∃ ff,Hid ((nth l i).f=ff):=⟨_,rfl⟩
 rw [hff.out] at hc
 have g2:decide (ff < d.f + d.p)=true:=decide_eq_true hc
 have HD:Hid (∀ d':Sd,d'=d → hitsS d=hitsS d'):=Lib.hid (fun d' e=>by rw [e])
 clear h h1 hI hc
 obtain ⟨f,p,z,an,aw,mn,mw,s⟩:=d
 unfold spv at G ⊢
 simp only at *
 go_enter Tryz.func227,Tryz.ntmps227
 go_wp2_with fail
 go_at_call 217
 refine (C.out _ (hr.later bX)).mono ?_
 rintro e w1 ⟨rfl,hb_w1⟩
 obtain ⟨hc_w1,hf_w1⟩:=bcell hb_w1;have hz_w1_w_0:w.heap.size < w1.heap.size:=lY hb_w1.size;have hs_w1:=hb_w1.size;(try simp only [zZ] at hs_w1)
 have b1:Below w.heap.size w w1:=bX
 have qw10:w1.cell? ⟨w.heap.size,0,none⟩=some (.int .i64 f):=(hc_w1 _ _ lX).trans (by simp [go_sem])
 have qw11:w1.cell? ⟨w.heap.size,1,none⟩=some (.int .i64 p):=(hc_w1 _ _ lX).trans (by simp [go_sem])
 have qw12:w1.cell? ⟨w.heap.size,2,none⟩=some (.int .i64 z):=(hc_w1 _ _ lX).trans (by simp [go_sem])
 have qw13:w1.cell? ⟨w.heap.size,3,none⟩=some (.int .i64 an):=(hc_w1 _ _ lX).trans (by simp [go_sem])
 have qw14:w1.cell? ⟨w.heap.size,4,none⟩=some (.slice As aw.length ca):=(hc_w1 _ _ lX).trans (by simp [go_sem])
 have qw15:w1.cell? ⟨w.heap.size,5,none⟩=some (.int .i64 mn):=(hc_w1 _ _ lX).trans (by simp [go_sem])
 have qw16:w1.cell? ⟨w.heap.size,6,none⟩=some (.slice Ms mw.length cm):=(hc_w1 _ _ lX).trans (by simp [go_sem])
 have qw17:w1.cell? ⟨w.heap.size,7,none⟩=some (.bool s):=(hc_w1 _ _ lX).trans (by simp [go_sem])
 clear hc_w1 hf_w1
 go_wp2_with fail
 go_at_call 217
 refine (V.out _ _ rfl (hA.later b1) (hM.later b1) _).mono ?_
 rintro e w2 ⟨rfl,hb_w2⟩
 obtain ⟨hc_w2,hf_w2⟩:=bcell hb_w2
 have hs2:=hb_w2.size
 (try simp only [zA] at hs2)
 have b2:Below w.heap.size w w2:=bX
 have qw20:w2.cell? ⟨w.heap.size,0,none⟩=some (.int .i64 f):=(hc_w2 _ _ lX).trans ((World.cell?_alloc_lt _ _ ⟨_,_,_⟩ lX).trans qw10)
 have qw21:w2.cell? ⟨w.heap.size,1,none⟩=some (.int .i64 p):=(hc_w2 _ _ lX).trans ((World.cell?_alloc_lt _ _ ⟨_,_,_⟩ lX).trans qw11)
 have qw22:w2.cell? ⟨w.heap.size,2,none⟩=some (.int .i64 z):=(hc_w2 _ _ lX).trans ((World.cell?_alloc_lt _ _ ⟨_,_,_⟩ lX).trans qw12)
 have qw23:w2.cell? ⟨w.heap.size,3,none⟩=some (.int .i64 an):=(hc_w2 _ _ lX).trans ((World.cell?_alloc_lt _ _ ⟨_,_,_⟩ lX).trans qw13)
 have qw24:w2.cell? ⟨w.heap.size,4,none⟩=some (.slice As aw.length ca):=(hc_w2 _ _ lX).trans ((World.cell?_alloc_lt _ _ ⟨_,_,_⟩ lX).trans qw14)
 have qw25:w2.cell? ⟨w.heap.size,5,none⟩=some (.int .i64 mn):=(hc_w2 _ _ lX).trans ((World.cell?_alloc_lt _ _ ⟨_,_,_⟩ lX).trans qw15)
 have qw26:w2.cell? ⟨w.heap.size,6,none⟩=some (.slice Ms mw.length cm):=(hc_w2 _ _ lX).trans ((World.cell?_alloc_lt _ _ ⟨_,_,_⟩ lX).trans qw16)
 have qw27:w2.cell? ⟨w.heap.size,7,none⟩=some (.bool s):=(hc_w2 _ _ lX).trans ((World.cell?_alloc_lt _ _ ⟨_,_,_⟩ lX).trans qw17)
 clear qw10 qw11 qw12 qw13 qw14 qw15 qw16 qw17 hc_w2 hf_w2
 go_wp2_with fail
 go_at_call 188
 refine (sindex_any cap 260 _ (hitsS ⟨f,p,z,an,aw,mn,mw,s⟩) eg_add1 (hr.later b2) hl (HSY.out _ _ qw20) (i:Nat) HI.out).mono ?_
 rintro e w3 ⟨rfl,hb_w3⟩
 obtain ⟨hc_w3,hf_w3⟩:=bcell hb_w3
 have hs3:=hb_w3.size
 have b3:Below w.heap.size w w3:=bX
 have hlt3:w.heap.size < w3.heap.size:=by omega
 have qw30:w3.cell? ⟨w.heap.size,0,none⟩=some (.int .i64 f):=(hc_w3 _ _ lX).trans (qw20)
 have qw31:w3.cell? ⟨w.heap.size,1,none⟩=some (.int .i64 p):=(hc_w3 _ _ lX).trans (qw21)
 have qw32:w3.cell? ⟨w.heap.size,2,none⟩=some (.int .i64 z):=(hc_w3 _ _ lX).trans (qw22)
 have qw33:w3.cell? ⟨w.heap.size,3,none⟩=some (.int .i64 an):=(hc_w3 _ _ lX).trans (qw23)
 have qw34:w3.cell? ⟨w.heap.size,4,none⟩=some (.slice As aw.length ca):=(hc_w3 _ _ lX).trans (qw24)
 have qw35:w3.cell? ⟨w.heap.size,5,none⟩=some (.int .i64 mn):=(hc_w3 _ _ lX).trans (qw25)
 have qw36:w3.cell? ⟨w.heap.size,6,none⟩=some (.slice Ms mw.length cm):=(hc_w3 _ _ lX).trans (qw26)
 have qw37:w3.cell? ⟨w.heap.size,7,none⟩=some (.bool s):=(hc_w3 _ _ lX).trans (qw27)
 clear qw20 qw21 qw22 qw23 qw24 qw25 qw26 qw27 hc_w3 hf_w3
 have hr3:=hr.later b3
 have j0:decide ((i:Int) < 0)=false:=decide_eq_false (by omega)
 have j1:(i:Int) < (l.length:Int):=by omega
 have j2:(0:Int) ≤ (i:Int):=by omega
 have j3:i < l.length:=hil
 obtain ⟨b,off,hAe,hbb,hcc⟩:=hr3.at_ (by omega)
 obtain ⟨Aa,caa,Am,cam,c8,_,_⟩:=hcc i hil
 have qf:=c8.c0
 rw [hff.out] at qf
 clear c8 hcc
 have HRV:=Lib.hid hr3.vals
 subst hAe
 clear hr hr3 HSY HI C V
 go_wp2_with fail
 go_region_held3 (fun X:World=>X.cell? ⟨w.heap.size,0,none⟩=some (.int .i64 f)∧X.cell? ⟨w.heap.size,1,none⟩=some (.int .i64 p)∧X.cell? ⟨w.heap.size,2,none⟩=some (.int .i64 z)∧X.cell? ⟨w.heap.size,3,none⟩=some (.int .i64 an)∧X.cell? ⟨w.heap.size,4,none⟩=some (.slice As aw.length ca)∧X.cell? ⟨w.heap.size,5,none⟩=some (.int .i64 mn)∧X.cell? ⟨w.heap.size,6,none⟩=some (.slice Ms mw.length cm)∧X.cell? ⟨w.heap.size,7,none⟩=some (.bool s)∧X.cell? ⟨b,off + i * 8,none⟩=some (.int .i64 ff))
  (refine ⟨?_,?_,?_,?_,?_,?_,?_,?_,?_⟩ <;> first | assumption | exact (World.cell?_alloc_lt _ _ ⟨_,_,_⟩ lX).trans (by assumption) | exact (World.cell?_alloc_lt _ _ ⟨_,_,_⟩ lX).trans ((World.cell?_alloc_lt _ _ ⟨_,_,_⟩ lX).trans (by assumption)) | (simp [go_sem];done))
  ((go_at_call 252;refine (G.out _).mono ?_;rintro e w4 ⟨rfl,hb_w4⟩;have hs4:=hb_w4.size;(try simp only [zZ] at hs4);have mw40:w4.cell? ⟨w.heap.size,0,none⟩=some (.int .i64 f):=(hb_w4.cell lX).trans kZ;have mw41:w4.cell? ⟨w.heap.size,1,none⟩=some (.int .i64 p):=(hb_w4.cell lX).trans kZ;have mw42:w4.cell? ⟨w.heap.size,2,none⟩=some (.int .i64 z):=(hb_w4.cell lX).trans kZ;have mw43:w4.cell? ⟨w.heap.size,3,none⟩=some (.int .i64 an):=(hb_w4.cell lX).trans kZ;have mw44:w4.cell? ⟨w.heap.size,4,none⟩=some (.slice As aw.length ca):=(hb_w4.cell lX).trans kZ;have mw45:w4.cell? ⟨w.heap.size,5,none⟩=some (.int .i64 mn):=(hb_w4.cell lX).trans kZ;have mw46:w4.cell? ⟨w.heap.size,6,none⟩=some (.slice Ms mw.length cm):=(hb_w4.cell lX).trans kZ;have mw47:w4.cell? ⟨w.heap.size,7,none⟩=some (.bool s):=(hb_w4.cell lX).trans kZ;have mw48:w4.cell? ⟨b,off + i * 8,none⟩=some (.int .i64 ff):=(hb_w4.cell lX).trans kZ))
 all_goals
  have b34:Below w3.heap.size w3 w4:=bX
  have b4:Below w.heap.size w w4:=b3.trans (b34.mono lX)
  obtain ⟨vs,v1,v2,v3⟩:=HRV.out
  have v2:=v2.later b34
  have v3:=v3.later b34
  have hAX:=hA.later b4
  have hMX:=hM.later b4
  have hsX:w.heap.size < w4.heap.size:=by omega
  have HX:=Lib.hid fun (g:Nat) (hg:w4.heap.size=g) (t:TypeId)=>scopy1_any (W:=w4) (w:=w4) (n:=l.length) (c:=cap) (t:=t) hg HW.out hok256 rfl v1 v2 v3
  clear v1 v2 v3 HRV
  go_wp2_with fail
  go_at_call 261
  refine (HX.out _ rfl _).mono ?_
  rintro e w5 ⟨A5,c5,us,rfl,h4,h5,hb_w5⟩
  have hs5:=hb_w5.size
  (try simp only [zA] at hs5)
  go_wp2
  go_ret2
  exact ⟨A5,c5,us,rfl,h4,h5.mono lX,bX⟩
end
section
variable {w:World} {A As Ms:Option Addr} {l:List Sd} (cap ca cm:Nat)
set_option maxHeartbeats 8000000 in
theorem sadd_fullm (hr:SRow w w.heap.size A l) (hcl:l.length ≤ cap) (hnil:A=none → cap=0) (d:Sd) (hA:Row w w.heap.size As d.aw) (hM:Row w w.heap.size Ms d.mw) (h:OkL l) (h1:Ok1 d) (i:Nat) (hI:IdxE l (hitsS d) (i:Nat)) (hc:¬ (nth l i).f < d.f + d.p) (h256:l.length=256) :
  Calls Tryz.prog 227 #[.slice A l.length cap,spv d As ca Ms cm] w fun e w'=>FreshL5 w l 6 e w':=by
 unfold FreshL5
 have hl:l.length ≤ 17592186044416:=by have:=h.1;omega
 have C:=Lib.hid fun (w:World) hr=>scheck_any (w:=w) (A:=A) (l:=l) cap hr hl 0 (.inl ⟨h,rfl⟩)
 have V:=Lib.hid fun (w:World) (g:Nat) (hg:w.heap.size=g) hA hM (t:TypeId)=>scheck1_any (w:=w) (d:=d) (A:=As) (M:=Ms) ca cm hg hA hM 0 (.inl ⟨h1,rfl⟩) t
 have HI:=Lib.hid hI
 have HW:=Lib.hid h.words
 have HO:=Lib.hid h
 have hok256:=h.1
 have HSY:=Lib.hid fun (w:World) B hB=>says_add1 (w:=w) (l:=l) d B HO.out hB
 have hsl:=h1.sized.slots
 have hpl:=h1.placed
 unfold Placed at hpl
 have G:=Lib.hid fun (w:World)=>sbehind_any (w:=w) d As ca Ms cm (by omega) (by omega)
 have hw1:Hid (d.aw.length=1∧d.mw.length=1):=Lib.hid ⟨h1.aw,h1.mw⟩
 have hil:=hI.lt
 have g1:(l.length == 256)=true:=by simp;omega
 obtain ⟨ff,hff⟩:∃ ff,Hid ((nth l i).f=ff):=⟨_,rfl⟩
 rw [hff.out] at hc
 have g2:decide (ff < d.f + d.p)=false:=decide_eq_false hc
 have HD:Hid (∀ d':Sd,d'=d → hitsS d=hitsS d'):=Lib.hid (fun d' e=>by rw [e])
 clear h h1 hI hc h256
 obtain ⟨f,p,z,an,aw,mn,mw,s⟩:=d
 unfold spv at G ⊢
 simp only at *
 go_enter Tryz.func227,Tryz.ntmps227
 go_wp2_with fail
 go_at_call 217
 refine (C.out _ (hr.later bX)).mono ?_
 rintro e w1 ⟨rfl,hb_w1⟩
 obtain ⟨hc_w1,hf_w1⟩:=bcell hb_w1;have hz_w1_w_0:w.heap.size < w1.heap.size:=lY hb_w1.size;have hs_w1:=hb_w1.size;(try simp only [zZ] at hs_w1)
 have b1:Below w.heap.size w w1:=bX
 have qw10:w1.cell? ⟨w.heap.size,0,none⟩=some (.int .i64 f):=(hc_w1 _ _ lX).trans (by simp [go_sem])
 have qw11:w1.cell? ⟨w.heap.size,1,none⟩=some (.int .i64 p):=(hc_w1 _ _ lX).trans (by simp [go_sem])
 have qw12:w1.cell? ⟨w.heap.size,2,none⟩=some (.int .i64 z):=(hc_w1 _ _ lX).trans (by simp [go_sem])
 have qw13:w1.cell? ⟨w.heap.size,3,none⟩=some (.int .i64 an):=(hc_w1 _ _ lX).trans (by simp [go_sem])
 have qw14:w1.cell? ⟨w.heap.size,4,none⟩=some (.slice As aw.length ca):=(hc_w1 _ _ lX).trans (by simp [go_sem])
 have qw15:w1.cell? ⟨w.heap.size,5,none⟩=some (.int .i64 mn):=(hc_w1 _ _ lX).trans (by simp [go_sem])
 have qw16:w1.cell? ⟨w.heap.size,6,none⟩=some (.slice Ms mw.length cm):=(hc_w1 _ _ lX).trans (by simp [go_sem])
 have qw17:w1.cell? ⟨w.heap.size,7,none⟩=some (.bool s):=(hc_w1 _ _ lX).trans (by simp [go_sem])
 clear hc_w1 hf_w1
 go_wp2_with fail
 go_at_call 217
 refine (V.out _ _ rfl (hA.later b1) (hM.later b1) _).mono ?_
 rintro e w2 ⟨rfl,hb_w2⟩
 obtain ⟨hc_w2,hf_w2⟩:=bcell hb_w2
 have hs2:=hb_w2.size
 (try simp only [zA] at hs2)
 have b2:Below w.heap.size w w2:=bX
 have qw20:w2.cell? ⟨w.heap.size,0,none⟩=some (.int .i64 f):=(hc_w2 _ _ lX).trans ((World.cell?_alloc_lt _ _ ⟨_,_,_⟩ lX).trans qw10)
 have qw21:w2.cell? ⟨w.heap.size,1,none⟩=some (.int .i64 p):=(hc_w2 _ _ lX).trans ((World.cell?_alloc_lt _ _ ⟨_,_,_⟩ lX).trans qw11)
 have qw22:w2.cell? ⟨w.heap.size,2,none⟩=some (.int .i64 z):=(hc_w2 _ _ lX).trans ((World.cell?_alloc_lt _ _ ⟨_,_,_⟩ lX).trans qw12)
 have qw23:w2.cell? ⟨w.heap.size,3,none⟩=some (.int .i64 an):=(hc_w2 _ _ lX).trans ((World.cell?_alloc_lt _ _ ⟨_,_,_⟩ lX).trans qw13)
 have qw24:w2.cell? ⟨w.heap.size,4,none⟩=some (.slice As aw.length ca):=(hc_w2 _ _ lX).trans ((World.cell?_alloc_lt _ _ ⟨_,_,_⟩ lX).trans qw14)
 have qw25:w2.cell? ⟨w.heap.size,5,none⟩=some (.int .i64 mn):=(hc_w2 _ _ lX).trans ((World.cell?_alloc_lt _ _ ⟨_,_,_⟩ lX).trans qw15)
 have qw26:w2.cell? ⟨w.heap.size,6,none⟩=some (.slice Ms mw.length cm):=(hc_w2 _ _ lX).trans ((World.cell?_alloc_lt _ _ ⟨_,_,_⟩ lX).trans qw16)
 have qw27:w2.cell? ⟨w.heap.size,7,none⟩=some (.bool s):=(hc_w2 _ _ lX).trans ((World.cell?_alloc_lt _ _ ⟨_,_,_⟩ lX).trans qw17)
 clear qw10 qw11 qw12 qw13 qw14 qw15 qw16 qw17 hc_w2 hf_w2
 go_wp2_with fail
 go_at_call 188
 refine (sindex_any cap 260 _ (hitsS ⟨f,p,z,an,aw,mn,mw,s⟩) eg_add1 (hr.later b2) hl (HSY.out _ _ qw20) (i:Nat) HI.out).mono ?_
 rintro e w3 ⟨rfl,hb_w3⟩
 obtain ⟨hc_w3,hf_w3⟩:=bcell hb_w3
 have hs3:=hb_w3.size
 have b3:Below w.heap.size w w3:=bX
 have hlt3:w.heap.size < w3.heap.size:=by omega
 have qw30:w3.cell? ⟨w.heap.size,0,none⟩=some (.int .i64 f):=(hc_w3 _ _ lX).trans (qw20)
 have qw31:w3.cell? ⟨w.heap.size,1,none⟩=some (.int .i64 p):=(hc_w3 _ _ lX).trans (qw21)
 have qw32:w3.cell? ⟨w.heap.size,2,none⟩=some (.int .i64 z):=(hc_w3 _ _ lX).trans (qw22)
 have qw33:w3.cell? ⟨w.heap.size,3,none⟩=some (.int .i64 an):=(hc_w3 _ _ lX).trans (qw23)
 have qw34:w3.cell? ⟨w.heap.size,4,none⟩=some (.slice As aw.length ca):=(hc_w3 _ _ lX).trans (qw24)
 have qw35:w3.cell? ⟨w.heap.size,5,none⟩=some (.int .i64 mn):=(hc_w3 _ _ lX).trans (qw25)
 have qw36:w3.cell? ⟨w.heap.size,6,none⟩=some (.slice Ms mw.length cm):=(hc_w3 _ _ lX).trans (qw26)
 have qw37:w3.cell? ⟨w.heap.size,7,none⟩=some (.bool s):=(hc_w3 _ _ lX).trans (qw27)
 clear qw20 qw21 qw22 qw23 qw24 qw25 qw26 qw27 hc_w3 hf_w3
 have hr3:=hr.later b3
 have j0:decide ((i:Int) < 0)=false:=decide_eq_false (by omega)
 have j1:(i:Int) < (l.length:Int):=by omega
 have j2:(0:Int) ≤ (i:Int):=by omega
 have j3:i < l.length:=hil
 obtain ⟨b,off,hAe,hbb,hcc⟩:=hr3.at_ (by omega)
 obtain ⟨Aa,caa,Am,cam,c8,_,_⟩:=hcc i hil
 have qf:=c8.c0
 rw [hff.out] at qf
 clear c8 hcc
 have HRV:=Lib.hid hr3.vals
 subst hAe
 clear hr hr3 HSY HI C V
 go_wp2_with fail
 go_region_held3 (fun X:World=>X.cell? ⟨w.heap.size,0,none⟩=some (.int .i64 f)∧X.cell? ⟨w.heap.size,1,none⟩=some (.int .i64 p)∧X.cell? ⟨w.heap.size,2,none⟩=some (.int .i64 z)∧X.cell? ⟨w.heap.size,3,none⟩=some (.int .i64 an)∧X.cell? ⟨w.heap.size,4,none⟩=some (.slice As aw.length ca)∧X.cell? ⟨w.heap.size,5,none⟩=some (.int .i64 mn)∧X.cell? ⟨w.heap.size,6,none⟩=some (.slice Ms mw.length cm)∧X.cell? ⟨w.heap.size,7,none⟩=some (.bool s)∧X.cell? ⟨b,off + i * 8,none⟩=some (.int .i64 ff))
  (refine ⟨?_,?_,?_,?_,?_,?_,?_,?_,?_⟩ <;> first | assumption | exact (World.cell?_alloc_lt _ _ ⟨_,_,_⟩ lX).trans (by assumption) | exact (World.cell?_alloc_lt _ _ ⟨_,_,_⟩ lX).trans ((World.cell?_alloc_lt _ _ ⟨_,_,_⟩ lX).trans (by assumption)) | (simp [go_sem];done))
  ((go_at_call 252;refine (G.out _).mono ?_;rintro e w4 ⟨rfl,hb_w4⟩;have hs4:=hb_w4.size;(try simp only [zZ] at hs4);have mw40:w4.cell? ⟨w.heap.size,0,none⟩=some (.int .i64 f):=(hb_w4.cell lX).trans kZ;have mw41:w4.cell? ⟨w.heap.size,1,none⟩=some (.int .i64 p):=(hb_w4.cell lX).trans kZ;have mw42:w4.cell? ⟨w.heap.size,2,none⟩=some (.int .i64 z):=(hb_w4.cell lX).trans kZ;have mw43:w4.cell? ⟨w.heap.size,3,none⟩=some (.int .i64 an):=(hb_w4.cell lX).trans kZ;have mw44:w4.cell? ⟨w.heap.size,4,none⟩=some (.slice As aw.length ca):=(hb_w4.cell lX).trans kZ;have mw45:w4.cell? ⟨w.heap.size,5,none⟩=some (.int .i64 mn):=(hb_w4.cell lX).trans kZ;have mw46:w4.cell? ⟨w.heap.size,6,none⟩=some (.slice Ms mw.length cm):=(hb_w4.cell lX).trans kZ;have mw47:w4.cell? ⟨w.heap.size,7,none⟩=some (.bool s):=(hb_w4.cell lX).trans kZ;have mw48:w4.cell? ⟨b,off + i * 8,none⟩=some (.int .i64 ff):=(hb_w4.cell lX).trans kZ))
 all_goals
  have b34:Below w3.heap.size w3 w4:=bX
  have b4:Below w.heap.size w w4:=b3.trans (b34.mono lX)
  obtain ⟨vs,v1,v2,v3⟩:=HRV.out
  have v2:=v2.later b34
  have v3:=v3.later b34
  have hAX:=hA.later b4
  have hMX:=hM.later b4
  have hsX:w.heap.size < w4.heap.size:=by omega
  have HX:=Lib.hid fun (g:Nat) (hg:w4.heap.size=g) (t:TypeId)=>scopy1_any (W:=w4) (w:=w4) (n:=l.length) (c:=cap) (t:=t) hg HW.out hok256 rfl v1 v2 v3
  clear v1 v2 v3 HRV
  go_wp2_with fail
  go_at_call 261
  refine (HX.out _ rfl _).mono ?_
  rintro e w5 ⟨A5,c5,us,rfl,h4,h5,hb_w5⟩
  have hs5:=hb_w5.size
  (try simp only [zA] at hs5)
  go_wp2
  go_ret2
  exact ⟨A5,c5,us,rfl,h4,h5.mono lX,bX⟩
end
section
variable {w:World} {A As Ms:Option Addr} {l:List Sd} (cap ca cm:Nat)
set_option maxHeartbeats 8000000 in
theorem sadd_fulle (hr:SRow w w.heap.size A l) (hcl:l.length ≤ cap) (hnil:A=none → cap=0) (d:Sd) (hA:Row w w.heap.size As d.aw) (hM:Row w w.heap.size Ms d.mw) (h:OkL l) (h1:Ok1 d) (hI:IdxE l (hitsS d) (-1)) (h256:l.length=256) :
  Calls Tryz.prog 227 #[.slice A l.length cap,spv d As ca Ms cm] w fun e w'=>FreshL5 w l 6 e w':=by
 unfold FreshL5
 have hl:l.length ≤ 17592186044416:=by have:=h.1;omega
 have C:=Lib.hid fun (w:World) hr=>scheck_any (w:=w) (A:=A) (l:=l) cap hr hl 0 (.inl ⟨h,rfl⟩)
 have V:=Lib.hid fun (w:World) (g:Nat) (hg:w.heap.size=g) hA hM (t:TypeId)=>scheck1_any (w:=w) (d:=d) (A:=As) (M:=Ms) ca cm hg hA hM 0 (.inl ⟨h1,rfl⟩) t
 have HI:=Lib.hid hI
 have HW:=Lib.hid h.words
 have HO:=Lib.hid h
 have hok256:=h.1
 have HSY:=Lib.hid fun (w:World) B hB=>says_add1 (w:=w) (l:=l) d B HO.out hB
 have hsl:=h1.sized.slots
 have hpl:=h1.placed
 unfold Placed at hpl
 have G:=Lib.hid fun (w:World)=>sbehind_any (w:=w) d As ca Ms cm (by omega) (by omega)
 have hw1:Hid (d.aw.length=1∧d.mw.length=1):=Lib.hid ⟨h1.aw,h1.mw⟩
 have g1:(l.length == 256)=true:=by simp;omega
 have HD:Hid (∀ d':Sd,d'=d → hitsS d=hitsS d'):=Lib.hid (fun d' e=>by rw [e])
 clear h h1 hI h256
 obtain ⟨f,p,z,an,aw,mn,mw,s⟩:=d
 unfold spv at G ⊢
 simp only at *
 go_enter Tryz.func227,Tryz.ntmps227
 go_wp2_with fail
 go_at_call 217
 refine (C.out _ (hr.later bX)).mono ?_
 rintro e w1 ⟨rfl,hb_w1⟩
 obtain ⟨hc_w1,hf_w1⟩:=bcell hb_w1;have hz_w1_w_0:w.heap.size < w1.heap.size:=lY hb_w1.size;have hs_w1:=hb_w1.size;(try simp only [zZ] at hs_w1)
 have b1:Below w.heap.size w w1:=bX
 have qw10:w1.cell? ⟨w.heap.size,0,none⟩=some (.int .i64 f):=(hc_w1 _ _ lX).trans (by simp [go_sem])
 have qw11:w1.cell? ⟨w.heap.size,1,none⟩=some (.int .i64 p):=(hc_w1 _ _ lX).trans (by simp [go_sem])
 have qw12:w1.cell? ⟨w.heap.size,2,none⟩=some (.int .i64 z):=(hc_w1 _ _ lX).trans (by simp [go_sem])
 have qw13:w1.cell? ⟨w.heap.size,3,none⟩=some (.int .i64 an):=(hc_w1 _ _ lX).trans (by simp [go_sem])
 have qw14:w1.cell? ⟨w.heap.size,4,none⟩=some (.slice As aw.length ca):=(hc_w1 _ _ lX).trans (by simp [go_sem])
 have qw15:w1.cell? ⟨w.heap.size,5,none⟩=some (.int .i64 mn):=(hc_w1 _ _ lX).trans (by simp [go_sem])
 have qw16:w1.cell? ⟨w.heap.size,6,none⟩=some (.slice Ms mw.length cm):=(hc_w1 _ _ lX).trans (by simp [go_sem])
 have qw17:w1.cell? ⟨w.heap.size,7,none⟩=some (.bool s):=(hc_w1 _ _ lX).trans (by simp [go_sem])
 clear hc_w1 hf_w1
 go_wp2_with fail
 go_at_call 217
 refine (V.out _ _ rfl (hA.later b1) (hM.later b1) _).mono ?_
 rintro e w2 ⟨rfl,hb_w2⟩
 obtain ⟨hc_w2,hf_w2⟩:=bcell hb_w2
 have hs2:=hb_w2.size
 (try simp only [zA] at hs2)
 have b2:Below w.heap.size w w2:=bX
 have qw20:w2.cell? ⟨w.heap.size,0,none⟩=some (.int .i64 f):=(hc_w2 _ _ lX).trans ((World.cell?_alloc_lt _ _ ⟨_,_,_⟩ lX).trans qw10)
 have qw21:w2.cell? ⟨w.heap.size,1,none⟩=some (.int .i64 p):=(hc_w2 _ _ lX).trans ((World.cell?_alloc_lt _ _ ⟨_,_,_⟩ lX).trans qw11)
 have qw22:w2.cell? ⟨w.heap.size,2,none⟩=some (.int .i64 z):=(hc_w2 _ _ lX).trans ((World.cell?_alloc_lt _ _ ⟨_,_,_⟩ lX).trans qw12)
 have qw23:w2.cell? ⟨w.heap.size,3,none⟩=some (.int .i64 an):=(hc_w2 _ _ lX).trans ((World.cell?_alloc_lt _ _ ⟨_,_,_⟩ lX).trans qw13)
 have qw24:w2.cell? ⟨w.heap.size,4,none⟩=some (.slice As aw.length ca):=(hc_w2 _ _ lX).trans ((World.cell?_alloc_lt _ _ ⟨_,_,_⟩ lX).trans qw14)
 have qw25:w2.cell? ⟨w.heap.size,5,none⟩=some (.int .i64 mn):=(hc_w2 _ _ lX).trans ((World.cell?_alloc_lt _ _ ⟨_,_,_⟩ lX).trans qw15)
 have qw26:w2.cell? ⟨w.heap.size,6,none⟩=some (.slice Ms mw.length cm):=(hc_w2 _ _ lX).trans ((World.cell?_alloc_lt _ _ ⟨_,_,_⟩ lX).trans qw16)
 have qw27:w2.cell? ⟨w.heap.size,7,none⟩=some (.bool s):=(hc_w2 _ _ lX).trans ((World.cell?_alloc_lt _ _ ⟨_,_,_⟩ lX).trans qw17)
 clear qw10 qw11 qw12 qw13 qw14 qw15 qw16 qw17 hc_w2 hf_w2
 go_wp2_with fail
 go_at_call 188
 refine (sindex_any cap 260 _ (hitsS ⟨f,p,z,an,aw,mn,mw,s⟩) eg_add1 (hr.later b2) hl (HSY.out _ _ qw20) (-1) HI.out).mono ?_
 rintro e w3 ⟨rfl,hb_w3⟩
 obtain ⟨hc_w3,hf_w3⟩:=bcell hb_w3
 have hs3:=hb_w3.size
 have b3:Below w.heap.size w w3:=bX
 have hlt3:w.heap.size < w3.heap.size:=by omega
 have qw30:w3.cell? ⟨w.heap.size,0,none⟩=some (.int .i64 f):=(hc_w3 _ _ lX).trans (qw20)
 have qw31:w3.cell? ⟨w.heap.size,1,none⟩=some (.int .i64 p):=(hc_w3 _ _ lX).trans (qw21)
 have qw32:w3.cell? ⟨w.heap.size,2,none⟩=some (.int .i64 z):=(hc_w3 _ _ lX).trans (qw22)
 have qw33:w3.cell? ⟨w.heap.size,3,none⟩=some (.int .i64 an):=(hc_w3 _ _ lX).trans (qw23)
 have qw34:w3.cell? ⟨w.heap.size,4,none⟩=some (.slice As aw.length ca):=(hc_w3 _ _ lX).trans (qw24)
 have qw35:w3.cell? ⟨w.heap.size,5,none⟩=some (.int .i64 mn):=(hc_w3 _ _ lX).trans (qw25)
 have qw36:w3.cell? ⟨w.heap.size,6,none⟩=some (.slice Ms mw.length cm):=(hc_w3 _ _ lX).trans (qw26)
 have qw37:w3.cell? ⟨w.heap.size,7,none⟩=some (.bool s):=(hc_w3 _ _ lX).trans (qw27)
 clear qw20 qw21 qw22 qw23 qw24 qw25 qw26 qw27 hc_w3 hf_w3
 have hr3:=hr.later b3
 have G1:=Lib.hid g1
 clear g1
 have HRV:=Lib.hid hr3.vals
 have j3:¬ l.length < l.length:=by omega
 have j4:decide ((l.length:Int) < (l.length:Int))=false:=by simp
 clear hr hr3 HSY HI C V
 go_wp2_with fail
 go_quiet (fail)
 have g1:=G1.out
 go_wp2_with fail
 all_goals
  generalize hWD:w3.drewN nq=w4 at *
  have b34:Below w3.heap.size w3 w4:=by rw [← hWD];exact below_drewN (Below.refl _ _) _
  have hszD:w4.heap.size=w3.heap.size:=by rw [← hWD];simp only [zN]
  have b4:Below w.heap.size w w4:=b3.trans (b34.mono lX)
  have hs4:=b34.size
  obtain ⟨vs,v1,v2,v3⟩:=HRV.out
  have v2:=v2.later b34
  have v3:=v3.later b34
  have hAX:=hA.later b4
  have hMX:=hM.later b4
  have hsX:w.heap.size < w4.heap.size:=by omega
  have mw40:w4.cell? ⟨w.heap.size,0,none⟩=some (.int .i64 f):=(b34.cell (p:=⟨w.heap.size,0,none⟩) lX).trans qw30
  have mw41:w4.cell? ⟨w.heap.size,1,none⟩=some (.int .i64 p):=(b34.cell (p:=⟨w.heap.size,1,none⟩) lX).trans qw31
  have mw42:w4.cell? ⟨w.heap.size,2,none⟩=some (.int .i64 z):=(b34.cell (p:=⟨w.heap.size,2,none⟩) lX).trans qw32
  have mw43:w4.cell? ⟨w.heap.size,3,none⟩=some (.int .i64 an):=(b34.cell (p:=⟨w.heap.size,3,none⟩) lX).trans qw33
  have mw44:w4.cell? ⟨w.heap.size,4,none⟩=some (.slice As aw.length ca):=(b34.cell (p:=⟨w.heap.size,4,none⟩) lX).trans qw34
  have mw45:w4.cell? ⟨w.heap.size,5,none⟩=some (.int .i64 mn):=(b34.cell (p:=⟨w.heap.size,5,none⟩) lX).trans qw35
  have mw46:w4.cell? ⟨w.heap.size,6,none⟩=some (.slice Ms mw.length cm):=(b34.cell (p:=⟨w.heap.size,6,none⟩) lX).trans qw36
  have mw47:w4.cell? ⟨w.heap.size,7,none⟩=some (.bool s):=(b34.cell (p:=⟨w.heap.size,7,none⟩) lX).trans qw37
  clear qw30 qw31 qw32 qw33 qw34 qw35 qw36 qw37 hWD
  have HX:=Lib.hid fun (g:Nat) (hg:w4.heap.size=g) (t:TypeId)=>scopy1_any (W:=w4) (w:=w4) (n:=l.length) (c:=cap) (t:=t) hg HW.out hok256 rfl v1 v2 v3
  clear v1 v2 v3 HRV
  go_wp2_with fail
  go_at_call 261
  refine (HX.out _ hszD _).mono ?_
  rintro e w5 ⟨A5,c5,us,rfl,h4,h5,hb_w5⟩
  have hs5:=hb_w5.size
  (try simp only [zA] at hs5)
  go_wp2
  go_ret2
  exact ⟨A5,c5,us,rfl,h4,h5.mono lX,bX⟩
end
section
variable {w:World} {A As Ms:Option Addr} {l:List Sd} (cap ca cm:Nat)
set_option maxHeartbeats 8000000 in
theorem sadd_putm (hr:SRow w w.heap.size A l) (hcl:l.length ≤ cap) (hnil:A=none → cap=0) (d:Sd) (hA:Row w w.heap.size As d.aw) (hM:Row w w.heap.size Ms d.mw) (h:OkL l) (h1:Ok1 d) (i:Nat) (hI:IdxE l (hitsS d) (i:Nat)) (hc:¬ (nth l i).f < d.f + d.p) (h256:l.length < 256) (r:List Sd) (hre:r=l.take i ++ [d] ++ l.drop i) :
  Calls Tryz.prog 227 #[.slice A l.length cap,spv d As ca Ms cm] w fun e w'=>FreshL5 w r 0 e w':=by
 unfold FreshL5
 have hl:l.length ≤ 17592186044416:=by have:=h.1;omega
 have C:=Lib.hid fun (w:World) hr=>scheck_any (w:=w) (A:=A) (l:=l) cap hr hl 0 (.inl ⟨h,rfl⟩)
 have V:=Lib.hid fun (w:World) (g:Nat) (hg:w.heap.size=g) hA hM (t:TypeId)=>scheck1_any (w:=w) (d:=d) (A:=As) (M:=Ms) ca cm hg hA hM 0 (.inl ⟨h1,rfl⟩) t
 have HI:=Lib.hid hI
 have HW:=Lib.hid h.words
 have HO:=Lib.hid h
 have hok256:=h.1
 have HSY:=Lib.hid fun (w:World) B hB=>says_add1 (w:=w) (l:=l) d B HO.out hB
 have hsl:=h1.sized.slots
 have hpl:=h1.placed
 unfold Placed at hpl
 have G:=Lib.hid fun (w:World)=>sbehind_any (w:=w) d As ca Ms cm (by omega) (by omega)
 have hw1:Hid (d.aw.length=1∧d.mw.length=1):=Lib.hid ⟨h1.aw,h1.mw⟩
 have hil:=hI.lt
 have g1:(l.length == 256)=false:=by simp;omega
 have hrl:r.length=l.length + 1:=by rw [hre];simp only [List.length_append,List.length_take,List.length_drop,List.length_singleton];omega
 obtain ⟨ff,hff⟩:∃ ff,Hid ((nth l i).f=ff):=⟨_,rfl⟩
 rw [hff.out] at hc
 have g2:decide (ff < d.f + d.p)=false:=decide_eq_false hc
 have HD:Hid (∀ d':Sd,d'=d → hitsS d=hitsS d'):=Lib.hid (fun d' e=>by rw [e])
 clear h h1 hI hc
 obtain ⟨f,p,z,an,aw,mn,mw,s⟩:=d
 unfold spv at G ⊢
 simp only at *
 go_enter Tryz.func227,Tryz.ntmps227
 go_wp2_with fail
 go_at_call 217
 refine (C.out _ (hr.later bX)).mono ?_
 rintro e w1 ⟨rfl,hb_w1⟩
 obtain ⟨hc_w1,hf_w1⟩:=bcell hb_w1;have hz_w1_w_0:w.heap.size < w1.heap.size:=lY hb_w1.size;have hs_w1:=hb_w1.size;(try simp only [zZ] at hs_w1)
 have b1:Below w.heap.size w w1:=bX
 have qw10:w1.cell? ⟨w.heap.size,0,none⟩=some (.int .i64 f):=(hc_w1 _ _ lX).trans (by simp [go_sem])
 have qw11:w1.cell? ⟨w.heap.size,1,none⟩=some (.int .i64 p):=(hc_w1 _ _ lX).trans (by simp [go_sem])
 have qw12:w1.cell? ⟨w.heap.size,2,none⟩=some (.int .i64 z):=(hc_w1 _ _ lX).trans (by simp [go_sem])
 have qw13:w1.cell? ⟨w.heap.size,3,none⟩=some (.int .i64 an):=(hc_w1 _ _ lX).trans (by simp [go_sem])
 have qw14:w1.cell? ⟨w.heap.size,4,none⟩=some (.slice As aw.length ca):=(hc_w1 _ _ lX).trans (by simp [go_sem])
 have qw15:w1.cell? ⟨w.heap.size,5,none⟩=some (.int .i64 mn):=(hc_w1 _ _ lX).trans (by simp [go_sem])
 have qw16:w1.cell? ⟨w.heap.size,6,none⟩=some (.slice Ms mw.length cm):=(hc_w1 _ _ lX).trans (by simp [go_sem])
 have qw17:w1.cell? ⟨w.heap.size,7,none⟩=some (.bool s):=(hc_w1 _ _ lX).trans (by simp [go_sem])
 clear hc_w1 hf_w1
 go_wp2_with fail
 go_at_call 217
 refine (V.out _ _ rfl (hA.later b1) (hM.later b1) _).mono ?_
 rintro e w2 ⟨rfl,hb_w2⟩
 obtain ⟨hc_w2,hf_w2⟩:=bcell hb_w2
 have hs2:=hb_w2.size
 (try simp only [zA] at hs2)
 have b2:Below w.heap.size w w2:=bX
 have qw20:w2.cell? ⟨w.heap.size,0,none⟩=some (.int .i64 f):=(hc_w2 _ _ lX).trans ((World.cell?_alloc_lt _ _ ⟨_,_,_⟩ lX).trans qw10)
 have qw21:w2.cell? ⟨w.heap.size,1,none⟩=some (.int .i64 p):=(hc_w2 _ _ lX).trans ((World.cell?_alloc_lt _ _ ⟨_,_,_⟩ lX).trans qw11)
 have qw22:w2.cell? ⟨w.heap.size,2,none⟩=some (.int .i64 z):=(hc_w2 _ _ lX).trans ((World.cell?_alloc_lt _ _ ⟨_,_,_⟩ lX).trans qw12)
 have qw23:w2.cell? ⟨w.heap.size,3,none⟩=some (.int .i64 an):=(hc_w2 _ _ lX).trans ((World.cell?_alloc_lt _ _ ⟨_,_,_⟩ lX).trans qw13)
 have qw24:w2.cell? ⟨w.heap.size,4,none⟩=some (.slice As aw.length ca):=(hc_w2 _ _ lX).trans ((World.cell?_alloc_lt _ _ ⟨_,_,_⟩ lX).trans qw14)
 have qw25:w2.cell? ⟨w.heap.size,5,none⟩=some (.int .i64 mn):=(hc_w2 _ _ lX).trans ((World.cell?_alloc_lt _ _ ⟨_,_,_⟩ lX).trans qw15)
 have qw26:w2.cell? ⟨w.heap.size,6,none⟩=some (.slice Ms mw.length cm):=(hc_w2 _ _ lX).trans ((World.cell?_alloc_lt _ _ ⟨_,_,_⟩ lX).trans qw16)
 have qw27:w2.cell? ⟨w.heap.size,7,none⟩=some (.bool s):=(hc_w2 _ _ lX).trans ((World.cell?_alloc_lt _ _ ⟨_,_,_⟩ lX).trans qw17)
 clear qw10 qw11 qw12 qw13 qw14 qw15 qw16 qw17 hc_w2 hf_w2
 go_wp2_with fail
 go_at_call 188
 refine (sindex_any cap 260 _ (hitsS ⟨f,p,z,an,aw,mn,mw,s⟩) eg_add1 (hr.later b2) hl (HSY.out _ _ qw20) (i:Nat) HI.out).mono ?_
 rintro e w3 ⟨rfl,hb_w3⟩
 obtain ⟨hc_w3,hf_w3⟩:=bcell hb_w3
 have hs3:=hb_w3.size
 have b3:Below w.heap.size w w3:=bX
 have hlt3:w.heap.size < w3.heap.size:=by omega
 have qw30:w3.cell? ⟨w.heap.size,0,none⟩=some (.int .i64 f):=(hc_w3 _ _ lX).trans (qw20)
 have qw31:w3.cell? ⟨w.heap.size,1,none⟩=some (.int .i64 p):=(hc_w3 _ _ lX).trans (qw21)
 have qw32:w3.cell? ⟨w.heap.size,2,none⟩=some (.int .i64 z):=(hc_w3 _ _ lX).trans (qw22)
 have qw33:w3.cell? ⟨w.heap.size,3,none⟩=some (.int .i64 an):=(hc_w3 _ _ lX).trans (qw23)
 have qw34:w3.cell? ⟨w.heap.size,4,none⟩=some (.slice As aw.length ca):=(hc_w3 _ _ lX).trans (qw24)
 have qw35:w3.cell? ⟨w.heap.size,5,none⟩=some (.int .i64 mn):=(hc_w3 _ _ lX).trans (qw25)
 have qw36:w3.cell? ⟨w.heap.size,6,none⟩=some (.slice Ms mw.length cm):=(hc_w3 _ _ lX).trans (qw26)
 have qw37:w3.cell? ⟨w.heap.size,7,none⟩=some (.bool s):=(hc_w3 _ _ lX).trans (qw27)
 clear qw20 qw21 qw22 qw23 qw24 qw25 qw26 qw27 hc_w3 hf_w3
 have hr3:=hr.later b3
 have j0:decide ((i:Int) < 0)=false:=decide_eq_false (by omega)
 have j1:(i:Int) < (l.length:Int):=by omega
 have j2:(0:Int) ≤ (i:Int):=by omega
 have j3:i < l.length:=hil
 obtain ⟨b,off,hAe,hbb,hcc⟩:=hr3.at_ (by omega)
 obtain ⟨Aa,caa,Am,cam,c8,_,_⟩:=hcc i hil
 have qf:=c8.c0
 rw [hff.out] at qf
 clear c8 hcc
 have HRV:=Lib.hid hr3.vals
 subst hAe
 clear hr hr3 HSY HI C V
 go_wp2_with fail
 go_region_held3 (fun X:World=>X.cell? ⟨w.heap.size,0,none⟩=some (.int .i64 f)∧X.cell? ⟨w.heap.size,1,none⟩=some (.int .i64 p)∧X.cell? ⟨w.heap.size,2,none⟩=some (.int .i64 z)∧X.cell? ⟨w.heap.size,3,none⟩=some (.int .i64 an)∧X.cell? ⟨w.heap.size,4,none⟩=some (.slice As aw.length ca)∧X.cell? ⟨w.heap.size,5,none⟩=some (.int .i64 mn)∧X.cell? ⟨w.heap.size,6,none⟩=some (.slice Ms mw.length cm)∧X.cell? ⟨w.heap.size,7,none⟩=some (.bool s)∧X.cell? ⟨b,off + i * 8,none⟩=some (.int .i64 ff))
  (refine ⟨?_,?_,?_,?_,?_,?_,?_,?_,?_⟩ <;> first | assumption | exact (World.cell?_alloc_lt _ _ ⟨_,_,_⟩ lX).trans (by assumption) | exact (World.cell?_alloc_lt _ _ ⟨_,_,_⟩ lX).trans ((World.cell?_alloc_lt _ _ ⟨_,_,_⟩ lX).trans (by assumption)) | (simp [go_sem];done))
  ((go_at_call 252;refine (G.out _).mono ?_;rintro e w4 ⟨rfl,hb_w4⟩;have hs4:=hb_w4.size;(try simp only [zZ] at hs4);have mw40:w4.cell? ⟨w.heap.size,0,none⟩=some (.int .i64 f):=(hb_w4.cell lX).trans kZ;have mw41:w4.cell? ⟨w.heap.size,1,none⟩=some (.int .i64 p):=(hb_w4.cell lX).trans kZ;have mw42:w4.cell? ⟨w.heap.size,2,none⟩=some (.int .i64 z):=(hb_w4.cell lX).trans kZ;have mw43:w4.cell? ⟨w.heap.size,3,none⟩=some (.int .i64 an):=(hb_w4.cell lX).trans kZ;have mw44:w4.cell? ⟨w.heap.size,4,none⟩=some (.slice As aw.length ca):=(hb_w4.cell lX).trans kZ;have mw45:w4.cell? ⟨w.heap.size,5,none⟩=some (.int .i64 mn):=(hb_w4.cell lX).trans kZ;have mw46:w4.cell? ⟨w.heap.size,6,none⟩=some (.slice Ms mw.length cm):=(hb_w4.cell lX).trans kZ;have mw47:w4.cell? ⟨w.heap.size,7,none⟩=some (.bool s):=(hb_w4.cell lX).trans kZ;have mw48:w4.cell? ⟨b,off + i * 8,none⟩=some (.int .i64 ff):=(hb_w4.cell lX).trans kZ))
 all_goals
  have b34:Below w3.heap.size w3 w4:=bX
  have b4:Below w.heap.size w w4:=b3.trans (b34.mono lX)
  obtain ⟨vs,v1,v2,v3⟩:=HRV.out
  have v2:=v2.later b34
  have v3:=v3.later b34
  have hAX:=hA.later b4
  have hMX:=hM.later b4
  have hsX:w.heap.size < w4.heap.size:=by omega
  have hvl:=sds_len v1
  have HP:Hid (∀ (W:World) (g:Nat),Below w4.heap.size w4 W → PRow W (some ⟨g,0,none⟩) [vs.take i,[⟨⟨f,p,z,an,aw,mn,mw,s⟩,As,ca,Ms,cm⟩],vs.drop i] → Calls Tryz.prog 261 #[.slice (some ⟨g,0,none⟩) 3 3] W fun e w'=>∃ A' c' us,e=.returned (.slice A' r.length c')∧sdsOf us=r∧OwnsS w' W.heap.size A' r.length c' us∧Below W.heap.size W w'):=Lib.hid fun W g hb hp=>by
   have h:=scopies_any (w:=W) (P:=some ⟨g,0,none⟩) (ps:=[vs.take i,[⟨⟨f,p,z,an,aw,mn,mw,s⟩,As,ca,Ms,cm⟩],vs.drop i]) 3 hp (by simp) (by simp only [List.flatten_cons,List.flatten_nil,List.append_nil,List.length_append,List.length_take,List.length_drop,List.length_singleton];omega) (fun v hv'=>by
    simp only [List.flatten_cons,List.flatten_nil,List.append_nil,List.mem_append,List.mem_singleton] at hv'
    have hm:v ∈ vs ∨ v=⟨⟨f,p,z,an,aw,mn,mw,s⟩,As,ca,Ms,cm⟩:=by
     rcases hv' with hv' | hv' | hv'
     ·exact .inl (List.mem_of_mem_take hv')
     ·exact .inr hv'
     ·exact .inl (List.mem_of_mem_drop hv')
    rcases hm with hm | rfl
    ·obtain ⟨r1,r2⟩:=(v3.later hb) v hm
     have hd:v.d ∈ l:=by rw [← v1];exact List.mem_map.2 ⟨v,hm,rfl⟩
     exact ⟨r1,r2,(HW.out _ hd).1,(HW.out _ hd).2⟩
    ·exact ⟨hAX.later hb,hMX.later hb,hw1.out.1,hw1.out.2⟩) r.length (by rw [hrl];simp only [List.flatten_cons,List.flatten_nil,List.append_nil,List.length_append,List.length_take,List.length_drop,List.length_singleton];omega) 3 rfl
   refine h.mono ?_
   rintro e w' ⟨A',c',us,rfl,g1,g2,g3⟩
   exact ⟨A',c',us,rfl,by rw [g1,hre];simp only [List.flatten_cons,List.flatten_nil,List.append_nil];rw [sds_app,sds_app,sds_take,sds_drop,v1,List.append_assoc];rfl,g2,g3⟩
  have HQ:Hid (∀ (A1 A2:Option Addr) (n1 n2 c1 c2 g:Nat) (t1 t2:TypeId),VRow w4 A1 (vs.take i) → VRow w4 A2 (vs.drop i) → i=n1 → l.length - i=n2 → w4.heap.size=g → PRow (((w4.alloc (.cells #[.int .i64 f,.int .i64 p,.int .i64 z,.int .i64 an,.slice As aw.length ca,.int .i64 mn,.slice Ms mw.length cm,.bool s] t1)).alloc (.cells #[.slice A1 n1 c1,.slice (some ⟨g,0,none⟩) 1 1,.slice A2 n2 c2] t2)).drew) (some ⟨g + 1,0,none⟩) [vs.take i,[⟨⟨f,p,z,an,aw,mn,mw,s⟩,As,ca,Ms,cm⟩],vs.drop i]):=Lib.hid fun A1 A2 n1 n2 c1 c2 g t1 t2 hd1 hd2 he1 he2 hg=>by
   subst hg
   have hb:Below w4.heap.size w4 (w4.alloc (.cells #[.int .i64 f,.int .i64 p,.int .i64 z,.int .i64 an,.slice As aw.length ca,.int .i64 mn,.slice Ms mw.length cm,.bool s] t1)):=(Below.refl _ _).alloc (Nat.le_refl _) _
   have hs:=Sp8.new w4 ⟨f,p,z,an,aw,mn,mw,s⟩ As ca Ms cm t1
   exact (prow3 (w4.heap.size + 1) (by simp) (hd1.later hb) (vrow_of (vs:=[⟨⟨f,p,z,an,aw,mn,mw,s⟩,As,ca,Ms,cm⟩]) (by simp) (fun i hi=>by
    have:i=0:=by simp at hi;omega
    subst this
    exact hs)) (hd2.later hb) (by rw [List.length_take];omega) rfl (by rw [List.length_drop];omega)).later (Below.drew (Below.refl _ _))
  have HT:=Lib.hid (v2.take i)
  have HR:=Lib.hid (v2.drop i)
  have hcap:¬ cap=i:=by omega
  have j5:(i:Int) ≤ (l.length:Int):=by omega
  have j6:(i:Int) ≤ (cap:Int):=by omega
  have j7:(l.length:Int) ≤ (cap:Int):=by omega
  clear v1 v2 v3 hvl hrl hre HRV HW hA hM
  go_wp2_with fail
  go_region_held3 (fun X:World=>X.cell? ⟨w.heap.size,0,none⟩=some (.int .i64 f)∧X.cell? ⟨w.heap.size,1,none⟩=some (.int .i64 p)∧X.cell? ⟨w.heap.size,2,none⟩=some (.int .i64 z)∧X.cell? ⟨w.heap.size,3,none⟩=some (.int .i64 an)∧X.cell? ⟨w.heap.size,4,none⟩=some (.slice As aw.length ca)∧X.cell? ⟨w.heap.size,5,none⟩=some (.int .i64 mn)∧X.cell? ⟨w.heap.size,6,none⟩=some (.slice Ms mw.length cm)∧X.cell? ⟨w.heap.size,7,none⟩=some (.bool s))
   (refine ⟨?_,?_,?_,?_,?_,?_,?_,?_⟩ <;> first | assumption | exact (World.cell?_alloc_lt _ _ ⟨_,_,_⟩ lX).trans (by assumption) | exact (World.cell?_alloc_lt _ _ ⟨_,_,_⟩ lX).trans ((World.cell?_alloc_lt _ _ ⟨_,_,_⟩ lX).trans (by assumption)) | (simp [go_sem];done))
   ((go_at_call 261;refine (HP.out _ _ bX (HQ.out _ _ _ _ _ _ _ _ _ HT.out HR.out rfl rfl rfl)).mono ?_;rintro e w5 ⟨A5,c5,us,rfl,h4,h5,hb_w5⟩;have hs5:=hb_w5.size;(try simp only [zZ] at hs5);have mw50:w5.cell? ⟨w.heap.size,0,none⟩=some (.int .i64 f):=(hb_w5.cell lX).trans kZ;have mw51:w5.cell? ⟨w.heap.size,1,none⟩=some (.int .i64 p):=(hb_w5.cell lX).trans kZ;have mw52:w5.cell? ⟨w.heap.size,2,none⟩=some (.int .i64 z):=(hb_w5.cell lX).trans kZ;have mw53:w5.cell? ⟨w.heap.size,3,none⟩=some (.int .i64 an):=(hb_w5.cell lX).trans kZ;have mw54:w5.cell? ⟨w.heap.size,4,none⟩=some (.slice As aw.length ca):=(hb_w5.cell lX).trans kZ;have mw55:w5.cell? ⟨w.heap.size,5,none⟩=some (.int .i64 mn):=(hb_w5.cell lX).trans kZ;have mw56:w5.cell? ⟨w.heap.size,6,none⟩=some (.slice Ms mw.length cm):=(hb_w5.cell lX).trans kZ;have mw57:w5.cell? ⟨w.heap.size,7,none⟩=some (.bool s):=(hb_w5.cell lX).trans kZ))
  all_goals
   go_wp2
   go_ret2
   exact ⟨A5,c5,us,rfl,h4,h5.mono lX,bX⟩
end
section
variable {w:World} {A As Ms:Option Addr} {l:List Sd} (cap ca cm:Nat)
set_option maxHeartbeats 8000000 in
theorem sadd_pute (hr:SRow w w.heap.size A l) (hcl:l.length ≤ cap) (hnil:A=none → cap=0) (d:Sd) (hA:Row w w.heap.size As d.aw) (hM:Row w w.heap.size Ms d.mw) (h:OkL l) (h1:Ok1 d) (hI:IdxE l (hitsS d) (-1)) (h256:l.length < 256) (r:List Sd) (hre:r=l.take l.length ++ [d] ++ l.drop l.length) :
  Calls Tryz.prog 227 #[.slice A l.length cap,spv d As ca Ms cm] w fun e w'=>FreshL5 w r 0 e w':=by
 unfold FreshL5
 have hl:l.length ≤ 17592186044416:=by have:=h.1;omega
 have C:=Lib.hid fun (w:World) hr=>scheck_any (w:=w) (A:=A) (l:=l) cap hr hl 0 (.inl ⟨h,rfl⟩)
 have V:=Lib.hid fun (w:World) (g:Nat) (hg:w.heap.size=g) hA hM (t:TypeId)=>scheck1_any (w:=w) (d:=d) (A:=As) (M:=Ms) ca cm hg hA hM 0 (.inl ⟨h1,rfl⟩) t
 have HI:=Lib.hid hI
 have HW:=Lib.hid h.words
 have HO:=Lib.hid h
 have hok256:=h.1
 have HSY:=Lib.hid fun (w:World) B hB=>says_add1 (w:=w) (l:=l) d B HO.out hB
 have hsl:=h1.sized.slots
 have hpl:=h1.placed
 unfold Placed at hpl
 have G:=Lib.hid fun (w:World)=>sbehind_any (w:=w) d As ca Ms cm (by omega) (by omega)
 have hw1:Hid (d.aw.length=1∧d.mw.length=1):=Lib.hid ⟨h1.aw,h1.mw⟩
 have g1:(l.length == 256)=false:=by simp;omega
 have hrl:r.length=l.length + 1:=by rw [hre];simp only [List.length_append,List.length_take,List.length_drop,List.length_singleton];omega
 have HD:Hid (∀ d':Sd,d'=d → hitsS d=hitsS d'):=Lib.hid (fun d' e=>by rw [e])
 clear h h1 hI
 obtain ⟨f,p,z,an,aw,mn,mw,s⟩:=d
 unfold spv at G ⊢
 simp only at *
 go_enter Tryz.func227,Tryz.ntmps227
 go_wp2_with fail
 go_at_call 217
 refine (C.out _ (hr.later bX)).mono ?_
 rintro e w1 ⟨rfl,hb_w1⟩
 obtain ⟨hc_w1,hf_w1⟩:=bcell hb_w1;have hz_w1_w_0:w.heap.size < w1.heap.size:=lY hb_w1.size;have hs_w1:=hb_w1.size;(try simp only [zZ] at hs_w1)
 have b1:Below w.heap.size w w1:=bX
 have qw10:w1.cell? ⟨w.heap.size,0,none⟩=some (.int .i64 f):=(hc_w1 _ _ lX).trans (by simp [go_sem])
 have qw11:w1.cell? ⟨w.heap.size,1,none⟩=some (.int .i64 p):=(hc_w1 _ _ lX).trans (by simp [go_sem])
 have qw12:w1.cell? ⟨w.heap.size,2,none⟩=some (.int .i64 z):=(hc_w1 _ _ lX).trans (by simp [go_sem])
 have qw13:w1.cell? ⟨w.heap.size,3,none⟩=some (.int .i64 an):=(hc_w1 _ _ lX).trans (by simp [go_sem])
 have qw14:w1.cell? ⟨w.heap.size,4,none⟩=some (.slice As aw.length ca):=(hc_w1 _ _ lX).trans (by simp [go_sem])
 have qw15:w1.cell? ⟨w.heap.size,5,none⟩=some (.int .i64 mn):=(hc_w1 _ _ lX).trans (by simp [go_sem])
 have qw16:w1.cell? ⟨w.heap.size,6,none⟩=some (.slice Ms mw.length cm):=(hc_w1 _ _ lX).trans (by simp [go_sem])
 have qw17:w1.cell? ⟨w.heap.size,7,none⟩=some (.bool s):=(hc_w1 _ _ lX).trans (by simp [go_sem])
 clear hc_w1 hf_w1
 go_wp2_with fail
 go_at_call 217
 refine (V.out _ _ rfl (hA.later b1) (hM.later b1) _).mono ?_
 rintro e w2 ⟨rfl,hb_w2⟩
 obtain ⟨hc_w2,hf_w2⟩:=bcell hb_w2
 have hs2:=hb_w2.size
 (try simp only [zA] at hs2)
 have b2:Below w.heap.size w w2:=bX
 have qw20:w2.cell? ⟨w.heap.size,0,none⟩=some (.int .i64 f):=(hc_w2 _ _ lX).trans ((World.cell?_alloc_lt _ _ ⟨_,_,_⟩ lX).trans qw10)
 have qw21:w2.cell? ⟨w.heap.size,1,none⟩=some (.int .i64 p):=(hc_w2 _ _ lX).trans ((World.cell?_alloc_lt _ _ ⟨_,_,_⟩ lX).trans qw11)
 have qw22:w2.cell? ⟨w.heap.size,2,none⟩=some (.int .i64 z):=(hc_w2 _ _ lX).trans ((World.cell?_alloc_lt _ _ ⟨_,_,_⟩ lX).trans qw12)
 have qw23:w2.cell? ⟨w.heap.size,3,none⟩=some (.int .i64 an):=(hc_w2 _ _ lX).trans ((World.cell?_alloc_lt _ _ ⟨_,_,_⟩ lX).trans qw13)
 have qw24:w2.cell? ⟨w.heap.size,4,none⟩=some (.slice As aw.length ca):=(hc_w2 _ _ lX).trans ((World.cell?_alloc_lt _ _ ⟨_,_,_⟩ lX).trans qw14)
 have qw25:w2.cell? ⟨w.heap.size,5,none⟩=some (.int .i64 mn):=(hc_w2 _ _ lX).trans ((World.cell?_alloc_lt _ _ ⟨_,_,_⟩ lX).trans qw15)
 have qw26:w2.cell? ⟨w.heap.size,6,none⟩=some (.slice Ms mw.length cm):=(hc_w2 _ _ lX).trans ((World.cell?_alloc_lt _ _ ⟨_,_,_⟩ lX).trans qw16)
 have qw27:w2.cell? ⟨w.heap.size,7,none⟩=some (.bool s):=(hc_w2 _ _ lX).trans ((World.cell?_alloc_lt _ _ ⟨_,_,_⟩ lX).trans qw17)
 clear qw10 qw11 qw12 qw13 qw14 qw15 qw16 qw17 hc_w2 hf_w2
 go_wp2_with fail
 go_at_call 188
 refine (sindex_any cap 260 _ (hitsS ⟨f,p,z,an,aw,mn,mw,s⟩) eg_add1 (hr.later b2) hl (HSY.out _ _ qw20) (-1) HI.out).mono ?_
 rintro e w3 ⟨rfl,hb_w3⟩
 obtain ⟨hc_w3,hf_w3⟩:=bcell hb_w3
 have hs3:=hb_w3.size
 have b3:Below w.heap.size w w3:=bX
 have hlt3:w.heap.size < w3.heap.size:=by omega
 have qw30:w3.cell? ⟨w.heap.size,0,none⟩=some (.int .i64 f):=(hc_w3 _ _ lX).trans (qw20)
 have qw31:w3.cell? ⟨w.heap.size,1,none⟩=some (.int .i64 p):=(hc_w3 _ _ lX).trans (qw21)
 have qw32:w3.cell? ⟨w.heap.size,2,none⟩=some (.int .i64 z):=(hc_w3 _ _ lX).trans (qw22)
 have qw33:w3.cell? ⟨w.heap.size,3,none⟩=some (.int .i64 an):=(hc_w3 _ _ lX).trans (qw23)
 have qw34:w3.cell? ⟨w.heap.size,4,none⟩=some (.slice As aw.length ca):=(hc_w3 _ _ lX).trans (qw24)
 have qw35:w3.cell? ⟨w.heap.size,5,none⟩=some (.int .i64 mn):=(hc_w3 _ _ lX).trans (qw25)
 have qw36:w3.cell? ⟨w.heap.size,6,none⟩=some (.slice Ms mw.length cm):=(hc_w3 _ _ lX).trans (qw26)
 have qw37:w3.cell? ⟨w.heap.size,7,none⟩=some (.bool s):=(hc_w3 _ _ lX).trans (qw27)
 clear qw20 qw21 qw22 qw23 qw24 qw25 qw26 qw27 hc_w3 hf_w3
 have hr3:=hr.later b3
 have HRV:=Lib.hid hr3.vals
 have j3:¬ l.length < l.length:=by omega
 have j4:decide ((l.length:Int) < (l.length:Int))=false:=by simp
 clear hr hr3 HSY HI C V
 go_wp2_with fail
 go_quiet (fail)
 go_wp2_with fail
 all_goals
  generalize hWD:w3.drewN nq=w4 at *
  have b34:Below w3.heap.size w3 w4:=by rw [← hWD];exact below_drewN (Below.refl _ _) _
  have b4:Below w.heap.size w w4:=b3.trans (b34.mono lX)
  have hs4:=b34.size
  obtain ⟨vs,v1,v2,v3⟩:=HRV.out
  have v2:=v2.later b34
  have v3:=v3.later b34
  have hAX:=hA.later b4
  have hMX:=hM.later b4
  have hsX:w.heap.size < w4.heap.size:=by omega
  have mw40:w4.cell? ⟨w.heap.size,0,none⟩=some (.int .i64 f):=(b34.cell (p:=⟨w.heap.size,0,none⟩) lX).trans qw30
  have mw41:w4.cell? ⟨w.heap.size,1,none⟩=some (.int .i64 p):=(b34.cell (p:=⟨w.heap.size,1,none⟩) lX).trans qw31
  have mw42:w4.cell? ⟨w.heap.size,2,none⟩=some (.int .i64 z):=(b34.cell (p:=⟨w.heap.size,2,none⟩) lX).trans qw32
  have mw43:w4.cell? ⟨w.heap.size,3,none⟩=some (.int .i64 an):=(b34.cell (p:=⟨w.heap.size,3,none⟩) lX).trans qw33
  have mw44:w4.cell? ⟨w.heap.size,4,none⟩=some (.slice As aw.length ca):=(b34.cell (p:=⟨w.heap.size,4,none⟩) lX).trans qw34
  have mw45:w4.cell? ⟨w.heap.size,5,none⟩=some (.int .i64 mn):=(b34.cell (p:=⟨w.heap.size,5,none⟩) lX).trans qw35
  have mw46:w4.cell? ⟨w.heap.size,6,none⟩=some (.slice Ms mw.length cm):=(b34.cell (p:=⟨w.heap.size,6,none⟩) lX).trans qw36
  have mw47:w4.cell? ⟨w.heap.size,7,none⟩=some (.bool s):=(b34.cell (p:=⟨w.heap.size,7,none⟩) lX).trans qw37
  clear qw30 qw31 qw32 qw33 qw34 qw35 qw36 qw37 hWD
  have hvl:=sds_len v1
  have HP:Hid (∀ (W:World) (g:Nat),Below w4.heap.size w4 W → PRow W (some ⟨g,0,none⟩) [vs.take l.length,[⟨⟨f,p,z,an,aw,mn,mw,s⟩,As,ca,Ms,cm⟩],vs.drop l.length] → Calls Tryz.prog 261 #[.slice (some ⟨g,0,none⟩) 3 3] W fun e w'=>∃ A' c' us,e=.returned (.slice A' r.length c')∧sdsOf us=r∧OwnsS w' W.heap.size A' r.length c' us∧Below W.heap.size W w'):=Lib.hid fun W g hb hp=>by
   have h:=scopies_any (w:=W) (P:=some ⟨g,0,none⟩) (ps:=[vs.take l.length,[⟨⟨f,p,z,an,aw,mn,mw,s⟩,As,ca,Ms,cm⟩],vs.drop l.length]) 3 hp (by simp) (by simp only [List.flatten_cons,List.flatten_nil,List.append_nil,List.length_append,List.length_take,List.length_drop,List.length_singleton];omega) (fun v hv'=>by
    simp only [List.flatten_cons,List.flatten_nil,List.append_nil,List.mem_append,List.mem_singleton] at hv'
    have hm:v ∈ vs ∨ v=⟨⟨f,p,z,an,aw,mn,mw,s⟩,As,ca,Ms,cm⟩:=by
     rcases hv' with hv' | hv' | hv'
     ·exact .inl (List.mem_of_mem_take hv')
     ·exact .inr hv'
     ·exact .inl (List.mem_of_mem_drop hv')
    rcases hm with hm | rfl
    ·obtain ⟨r1,r2⟩:=(v3.later hb) v hm
     have hd:v.d ∈ l:=by rw [← v1];exact List.mem_map.2 ⟨v,hm,rfl⟩
     exact ⟨r1,r2,(HW.out _ hd).1,(HW.out _ hd).2⟩
    ·exact ⟨hAX.later hb,hMX.later hb,hw1.out.1,hw1.out.2⟩) r.length (by rw [hrl];simp only [List.flatten_cons,List.flatten_nil,List.append_nil,List.length_append,List.length_take,List.length_drop,List.length_singleton];omega) 3 rfl
   refine h.mono ?_
   rintro e w' ⟨A',c',us,rfl,g1,g2,g3⟩
   exact ⟨A',c',us,rfl,by rw [g1,hre];simp only [List.flatten_cons,List.flatten_nil,List.append_nil];rw [sds_app,sds_app,sds_take,sds_drop,v1,List.append_assoc];rfl,g2,g3⟩
  have HQ:Hid (∀ (A1 A2:Option Addr) (n1 n2 c1 c2 g:Nat) (t1 t2:TypeId),VRow w4 A1 (vs.take l.length) → VRow w4 A2 (vs.drop l.length) → l.length=n1 → l.length - l.length=n2 → w4.heap.size=g → PRow (((w4.alloc (.cells #[.int .i64 f,.int .i64 p,.int .i64 z,.int .i64 an,.slice As aw.length ca,.int .i64 mn,.slice Ms mw.length cm,.bool s] t1)).alloc (.cells #[.slice A1 n1 c1,.slice (some ⟨g,0,none⟩) 1 1,.slice A2 n2 c2] t2)).drew) (some ⟨g + 1,0,none⟩) [vs.take l.length,[⟨⟨f,p,z,an,aw,mn,mw,s⟩,As,ca,Ms,cm⟩],vs.drop l.length]):=Lib.hid fun A1 A2 n1 n2 c1 c2 g t1 t2 hd1 hd2 he1 he2 hg=>by
   subst hg
   have hb:Below w4.heap.size w4 (w4.alloc (.cells #[.int .i64 f,.int .i64 p,.int .i64 z,.int .i64 an,.slice As aw.length ca,.int .i64 mn,.slice Ms mw.length cm,.bool s] t1)):=(Below.refl _ _).alloc (Nat.le_refl _) _
   have hs:=Sp8.new w4 ⟨f,p,z,an,aw,mn,mw,s⟩ As ca Ms cm t1
   exact (prow3 (w4.heap.size + 1) (by simp) (hd1.later hb) (vrow_of (vs:=[⟨⟨f,p,z,an,aw,mn,mw,s⟩,As,ca,Ms,cm⟩]) (by simp) (fun i hi=>by
    have:i=0:=by simp at hi;omega
    subst this
    exact hs)) (hd2.later hb) (by rw [List.length_take];omega) rfl (by rw [List.length_drop];omega)).later (Below.drew (Below.refl _ _))
  have HT:=Lib.hid (v2.take l.length)
  have HD0:Hid (∀ A2,VRow w4 A2 (vs.drop l.length)):=Lib.hid fun A2 hl=>by
   rw [List.length_drop] at hl
   omega
  have HN0:Hid (l.length - l.length=0):=Lib.hid (Nat.sub_self _)
  clear v1 v2 v3 hvl hrl hre HRV HW hA hM
  cases A with
  | none=>
   obtain rfl:=hnil rfl
   have hl0:l.length=0:=by omega
   have HL0:=Lib.hid hl0
   simp only [hl0] at *
   go_wp2_with fail
   go_region_held3 (fun X:World=>X.cell? ⟨w.heap.size,0,none⟩=some (.int .i64 f)∧X.cell? ⟨w.heap.size,1,none⟩=some (.int .i64 p)∧X.cell? ⟨w.heap.size,2,none⟩=some (.int .i64 z)∧X.cell? ⟨w.heap.size,3,none⟩=some (.int .i64 an)∧X.cell? ⟨w.heap.size,4,none⟩=some (.slice As aw.length ca)∧X.cell? ⟨w.heap.size,5,none⟩=some (.int .i64 mn)∧X.cell? ⟨w.heap.size,6,none⟩=some (.slice Ms mw.length cm)∧X.cell? ⟨w.heap.size,7,none⟩=some (.bool s))
    (refine ⟨?_,?_,?_,?_,?_,?_,?_,?_⟩ <;> first | assumption | exact (World.cell?_alloc_lt _ _ ⟨_,_,_⟩ lX).trans (by assumption) | exact (World.cell?_alloc_lt _ _ ⟨_,_,_⟩ lX).trans ((World.cell?_alloc_lt _ _ ⟨_,_,_⟩ lX).trans (by assumption)) | (simp [go_sem];done))
    ((go_at_call 261;refine (HP.out _ _ bX (HQ.out _ _ _ _ _ _ _ _ _ HT.out (HD0.out _) rfl rfl rfl)).mono ?_;rintro e w5 ⟨A5,c5,us,rfl,h4,h5,hb_w5⟩;have hs5:=hb_w5.size;(try simp only [zZ] at hs5);have mw50:w5.cell? ⟨w.heap.size,0,none⟩=some (.int .i64 f):=(hb_w5.cell lX).trans kZ;have mw51:w5.cell? ⟨w.heap.size,1,none⟩=some (.int .i64 p):=(hb_w5.cell lX).trans kZ;have mw52:w5.cell? ⟨w.heap.size,2,none⟩=some (.int .i64 z):=(hb_w5.cell lX).trans kZ;have mw53:w5.cell? ⟨w.heap.size,3,none⟩=some (.int .i64 an):=(hb_w5.cell lX).trans kZ;have mw54:w5.cell? ⟨w.heap.size,4,none⟩=some (.slice As aw.length ca):=(hb_w5.cell lX).trans kZ;have mw55:w5.cell? ⟨w.heap.size,5,none⟩=some (.int .i64 mn):=(hb_w5.cell lX).trans kZ;have mw56:w5.cell? ⟨w.heap.size,6,none⟩=some (.slice Ms mw.length cm):=(hb_w5.cell lX).trans kZ;have mw57:w5.cell? ⟨w.heap.size,7,none⟩=some (.bool s):=(hb_w5.cell lX).trans kZ))
   all_goals
    go_wp2
    go_ret2
    exact ⟨A5,c5,us,rfl,h4,h5.mono lX,bX⟩
  | some ad=>
   have j6:(l.length:Int) ≤ (cap:Int):=by omega
   have j7:(0:Int) ≤ (l.length:Int):=by omega
   by_cases hcap:cap=l.length
   ·subst hcap
    go_wp2_with fail
    go_region_held3 (fun X:World=>X.cell? ⟨w.heap.size,0,none⟩=some (.int .i64 f)∧X.cell? ⟨w.heap.size,1,none⟩=some (.int .i64 p)∧X.cell? ⟨w.heap.size,2,none⟩=some (.int .i64 z)∧X.cell? ⟨w.heap.size,3,none⟩=some (.int .i64 an)∧X.cell? ⟨w.heap.size,4,none⟩=some (.slice As aw.length ca)∧X.cell? ⟨w.heap.size,5,none⟩=some (.int .i64 mn)∧X.cell? ⟨w.heap.size,6,none⟩=some (.slice Ms mw.length cm)∧X.cell? ⟨w.heap.size,7,none⟩=some (.bool s))
     (refine ⟨?_,?_,?_,?_,?_,?_,?_,?_⟩ <;> first | assumption | exact (World.cell?_alloc_lt _ _ ⟨_,_,_⟩ lX).trans (by assumption) | exact (World.cell?_alloc_lt _ _ ⟨_,_,_⟩ lX).trans ((World.cell?_alloc_lt _ _ ⟨_,_,_⟩ lX).trans (by assumption)) | (simp [go_sem];done))
     ((go_at_call 261;refine (HP.out _ _ bX (HQ.out _ _ _ _ _ _ _ _ _ HT.out (HD0.out _) rfl HN0.out rfl)).mono ?_;rintro e w5 ⟨A5,c5,us,rfl,h4,h5,hb_w5⟩;have hs5:=hb_w5.size;(try simp only [zZ] at hs5);have mw50:w5.cell? ⟨w.heap.size,0,none⟩=some (.int .i64 f):=(hb_w5.cell lX).trans kZ;have mw51:w5.cell? ⟨w.heap.size,1,none⟩=some (.int .i64 p):=(hb_w5.cell lX).trans kZ;have mw52:w5.cell? ⟨w.heap.size,2,none⟩=some (.int .i64 z):=(hb_w5.cell lX).trans kZ;have mw53:w5.cell? ⟨w.heap.size,3,none⟩=some (.int .i64 an):=(hb_w5.cell lX).trans kZ;have mw54:w5.cell? ⟨w.heap.size,4,none⟩=some (.slice As aw.length ca):=(hb_w5.cell lX).trans kZ;have mw55:w5.cell? ⟨w.heap.size,5,none⟩=some (.int .i64 mn):=(hb_w5.cell lX).trans kZ;have mw56:w5.cell? ⟨w.heap.size,6,none⟩=some (.slice Ms mw.length cm):=(hb_w5.cell lX).trans kZ;have mw57:w5.cell? ⟨w.heap.size,7,none⟩=some (.bool s):=(hb_w5.cell lX).trans kZ))
    all_goals
     go_wp2
     go_ret2
     exact ⟨A5,c5,us,rfl,h4,h5.mono lX,bX⟩
   ·go_wp2_with fail
    go_region_held3 (fun X:World=>X.cell? ⟨w.heap.size,0,none⟩=some (.int .i64 f)∧X.cell? ⟨w.heap.size,1,none⟩=some (.int .i64 p)∧X.cell? ⟨w.heap.size,2,none⟩=some (.int .i64 z)∧X.cell? ⟨w.heap.size,3,none⟩=some (.int .i64 an)∧X.cell? ⟨w.heap.size,4,none⟩=some (.slice As aw.length ca)∧X.cell? ⟨w.heap.size,5,none⟩=some (.int .i64 mn)∧X.cell? ⟨w.heap.size,6,none⟩=some (.slice Ms mw.length cm)∧X.cell? ⟨w.heap.size,7,none⟩=some (.bool s))
     (refine ⟨?_,?_,?_,?_,?_,?_,?_,?_⟩ <;> first | assumption | exact (World.cell?_alloc_lt _ _ ⟨_,_,_⟩ lX).trans (by assumption) | exact (World.cell?_alloc_lt _ _ ⟨_,_,_⟩ lX).trans ((World.cell?_alloc_lt _ _ ⟨_,_,_⟩ lX).trans (by assumption)) | (simp [go_sem];done))
     ((go_at_call 261;refine (HP.out _ _ bX (HQ.out _ _ _ _ _ _ _ _ _ HT.out (HD0.out _) rfl HN0.out rfl)).mono ?_;rintro e w5 ⟨A5,c5,us,rfl,h4,h5,hb_w5⟩;have hs5:=hb_w5.size;(try simp only [zZ] at hs5);have mw50:w5.cell? ⟨w.heap.size,0,none⟩=some (.int .i64 f):=(hb_w5.cell lX).trans kZ;have mw51:w5.cell? ⟨w.heap.size,1,none⟩=some (.int .i64 p):=(hb_w5.cell lX).trans kZ;have mw52:w5.cell? ⟨w.heap.size,2,none⟩=some (.int .i64 z):=(hb_w5.cell lX).trans kZ;have mw53:w5.cell? ⟨w.heap.size,3,none⟩=some (.int .i64 an):=(hb_w5.cell lX).trans kZ;have mw54:w5.cell? ⟨w.heap.size,4,none⟩=some (.slice As aw.length ca):=(hb_w5.cell lX).trans kZ;have mw55:w5.cell? ⟨w.heap.size,5,none⟩=some (.int .i64 mn):=(hb_w5.cell lX).trans kZ;have mw56:w5.cell? ⟨w.heap.size,6,none⟩=some (.slice Ms mw.length cm):=(hb_w5.cell lX).trans kZ;have mw57:w5.cell? ⟨w.heap.size,7,none⟩=some (.bool s):=(hb_w5.cell lX).trans kZ))
    all_goals
     go_wp2
     go_ret2
     exact ⟨A5,c5,us,rfl,h4,h5.mono lX,bX⟩
end
section
variable {w:World} {A As Ms:Option Addr} {l:List Sd} (cap ca cm:Nat)
theorem sadd_any (hr:SRow w w.heap.size A l) (hcl:l.length ≤ cap) (hl:l.length ≤ 17592186044416) (hnil:A=none → cap=0) (d:Sd) (hA:Row w w.heap.size As d.aw) (hM:Row w w.heap.size Ms d.mw) (r:List Sd) (y:Int) (hE:AddE l d r y) :
  Calls Tryz.prog 227 #[.slice A l.length cap,spv d As ca Ms cm] w fun e w'=>FreshL5 w r y e w':=by
 rcases hE with ⟨h,rfl,rfl⟩ | ⟨h,h1,rfl,rfl⟩ | ⟨n,h,h1,hn,hh⟩
 ·exact sadd_bad cap ca cm hr hl d hA hM (.inl h)
 ·exact sadd_bad cap ca cm hr hl d hA hM (.inr ⟨h,h1⟩)
 ·rcases hn with ⟨hI,rfl⟩ | hI
  ·rcases hh with ⟨hc,rfl,rfl⟩ | ⟨hc,h256,rfl,rfl⟩ | ⟨hc,h256,rfl,rfl⟩
   ·exact absurd hc.1 (Nat.lt_irrefl _)
   ·exact sadd_fulle cap ca cm hr hcl hnil d hA hM h h1 hI h256
   ·exact sadd_pute cap ca cm hr hcl hnil d hA hM h h1 hI h256 _ rfl
  ·rcases hh with ⟨hc,rfl,rfl⟩ | ⟨hc,h256,rfl,rfl⟩ | ⟨hc,h256,rfl,rfl⟩
   ·exact sadd_clash cap ca cm hr hcl hnil d hA hM h h1 n hI hc.2
   ·exact sadd_fullm cap ca cm hr hcl hnil d hA hM h h1 n hI (fun h2=>hc ⟨hI.lt,h2⟩) h256
   ·exact sadd_putm cap ca cm hr hcl hnil d hA hM h h1 n hI (fun h2=>hc ⟨hI.lt,h2⟩) h256 _ rfl
end
theorem res_span1 {fn:Func} {p:Tmp} (h:fn.results=#[.cell p 72]) {tmps:Array Value} {w:World} {g ca cm:Nat} {d:Sd} {A M:Option Addr} (hp:tmps.getD p undef=.pointer (some ⟨g,0,none⟩))
  (h8:Sp8 w g 0 d A ca M cm):(results fn tmps).run Tryz.prog w=.ok (spv d A ca M cm) w:=by
 have hp2:tmps[p]?.getD undef=.pointer (some ⟨g,0,none⟩):=by rw [← hp];simp
 obtain ⟨c0,c1,c2,c3,c4,c5,c6,c7⟩:=h8
 simp only [Nat.zero_add] at c0 c1 c2 c3 c4 c5 c6 c7
 simp only [results,h]
 simp [go_sem,Result.andThen,c0,c1,c2,c3,c4,c5,c6,c7,asAddr,hp2,spv]
def OneS (w:World) (d:Sd) (e:Ending) (w':World):Prop:=∃ A ca M cm,e=.returned (spv d A ca M cm)∧Own w' w.heap.size A d.aw∧Own w' w.heap.size M d.mw∧Below w.heap.size w w'
section
variable {w:World} {A M:Option Addr} (ca cm:Nat)
set_option maxHeartbeats 2000000 in
theorem xone_any (d:Sd) (hA:Row w w.heap.size A d.aw) (hM:Row w w.heap.size M d.mw) (la:d.aw.length ≤ 17592186044416) (lm:d.mw.length ≤ 17592186044416) :
  Calls Tryz.prog 150 #[spv d A ca M cm] w fun e w'=>OneS w d e w':=by
 unfold OneS
 have HA:=Lib.hid fun (w:World) hr=>copy_any d.an (A:=A) ca (ws:=d.aw) (w:=w) hr la
 have HM:=Lib.hid fun (w:World) hr=>copy_any d.mn (A:=M) cm (ws:=d.mw) (w:=w) hr lm
 unfold Copied at HA HM
 obtain ⟨f,p,z,an,aw,mn,mw,s⟩:=d
 unfold spv
 simp only at *
 go_enter Tryz.func150,Tryz.ntmps150
 go_wp2_with fail
 go_at_call 133
 refine (HA.out _ (hA.later bX)).mono ?_
 rintro e w2 ⟨A2,c2,rfl,o2,hb_w2⟩
 obtain ⟨hc_w2,hf_w2⟩:=bcell hb_w2
 have hs2:=hb_w2.size
 (try simp only [zA] at hs2)
 have b2:Below w.heap.size w w2:=bX
 have X1:Sp8 w2 w.heap.size 0 ⟨f,p,z,an,aw,mn,mw,s⟩ A ca M cm:=by constructor <;> exact (hc_w2 _ _ lX).trans (by simp [go_sem])
 have Y1:Sp8 w2 (w.heap.size + 1) 0 sd0 none 0 none 0:=by constructor <;> exact (hc_w2 _ _ lX).trans (by simp [go_sem,sd0])
 have z3:w2.frozen? ⟨w.heap.size,3,none⟩=false:=(hf_w2 _ _ lX).trans (by simp [go_sem])
 have z4:w2.frozen? ⟨w.heap.size,4,none⟩=false:=(hf_w2 _ _ lX).trans (by simp [go_sem])
 have z5:w2.frozen? ⟨w.heap.size,5,none⟩=false:=(hf_w2 _ _ lX).trans (by simp [go_sem])
 have z6:w2.frozen? ⟨w.heap.size,6,none⟩=false:=(hf_w2 _ _ lX).trans (by simp [go_sem])
 have y0:∀ i,w2.frozen? ⟨w.heap.size + 1,i,none⟩=false:=fun i=>(hf_w2 _ _ lX).trans (by simp [go_sem])
 obtain ⟨x0,x1,x2,x3,x4,x5,x6,x7⟩:=id X1
 simp only [Nat.zero_add] at x0 x1 x2 x3 x4 x5 x6 x7
 have rM2:=hM.later b2
 clear hc_w2 hf_w2
 go_wp2_with fail
 generalize hWS:(w2.setCell ⟨w.heap.size,3,none⟩ (.int .i64 an)).setCell ⟨w.heap.size,4,none⟩ (.slice A2 aw.length c2)=wS at *
 have hzS:wS.heap.size=w2.heap.size:=by rw [← hWS];simp
 have X2:Sp8 wS w.heap.size 0 ⟨f,p,z,an,aw,mn,mw,s⟩ A2 c2 M cm:=by rw [← hWS];constructor <;> simp [go_sem,x0,x1,x2,x3,x4,x5,x6,x7]
 have Y2:Sp8 wS (w.heap.size + 1) 0 sd0 none 0 none 0:=by rw [← hWS];exact (Y1.far (p:=⟨w.heap.size,3,none⟩) (by simp) _).far (p:=⟨w.heap.size,4,none⟩) (by simp) _
 have oA:Own wS (w.heap.size + 2) A2 aw:=by rw [← hWS];exact ((o2.mono lX).far (p:=⟨w.heap.size,3,none⟩) (.inl (by show w.heap.size < _;omega)) _).far (p:=⟨w.heap.size,4,none⟩) (.inl (by show w.heap.size < _;omega)) _
 have bS:Below w.heap.size w wS:=by rw [← hWS];exact (b2.setCell (p:=⟨w.heap.size,3,none⟩) lX _).setCell (p:=⟨w.heap.size,4,none⟩) lX _
 have rMS:Row wS wS.heap.size M mw:=hM.later bS
 have t3:∀ i,wS.frozen? ⟨w.heap.size + 1,i,none⟩=false:=fun i=>by rw [← hWS,World.frozen?_setCell,World.frozen?_setCell];exact y0 i
 have t5:wS.frozen? ⟨w.heap.size,5,none⟩=false:=by rw [← hWS,World.frozen?_setCell,World.frozen?_setCell];exact z5
 have t6:wS.frozen? ⟨w.heap.size,6,none⟩=false:=by rw [← hWS,World.frozen?_setCell,World.frozen?_setCell];exact z6
 clear hWS X1 Y1 z3 z4 z5 z6 y0 o2 rM2 x0 x1 x2 x3 x4 x5 x6 x7 b2
 go_at_call 133
 refine (HM.out _ rMS).mono ?_
 rintro e w4 ⟨A4,c4,rfl,o4,hb_w4⟩
 have hs4:=hb_w4.size
 have b4:Below w.heap.size w w4:=bS.trans (hb_w4.mono (by omega))
 have X3:=X2.below hb_w4 (by omega)
 have Y3:=Y2.below hb_w4 (by omega)
 have oA4:=oA.later hb_w4
 have u5:w4.frozen? ⟨w.heap.size,5,none⟩=false:=((bcell hb_w4).2 _ _ (by omega)).trans t5
 have u6:w4.frozen? ⟨w.heap.size,6,none⟩=false:=((bcell hb_w4).2 _ _ (by omega)).trans t6
 have u1:∀ i,w4.frozen? ⟨w.heap.size + 1,i,none⟩=false:=fun i=>((bcell hb_w4).2 _ _ (by omega)).trans (t3 i)
 have v0:=u1 0
 have v1:=u1 1
 have v2:=u1 2
 have v3:=u1 3
 have v4:=u1 4
 have v5:=u1 5
 have v6:=u1 6
 have v7:=u1 7
 obtain ⟨x0,x1,x2,x3,x4,x5,x6,x7⟩:=id X3
 simp only [Nat.zero_add] at x0 x1 x2 x3 x4 x5 x6 x7
 obtain ⟨m0,m1,m2,m3,m4,m5,m6,m7⟩:=id Y3
 simp only [Nat.zero_add,sd0,List.length_nil] at m0 m1 m2 m3 m4 m5 m6 m7
 clear X2 Y2 oA bS rMS t3 t5 t6 u1
 go_wp2
 have Y4:=(Y3.far (p:=⟨w.heap.size,5,none⟩) (by simp) (.int .i64 mn)).far (p:=⟨w.heap.size,6,none⟩) (by simp) (.slice A4 mw.length c4)
 have Y5:=Y4.set (d':=⟨f,p,z,an,aw,mn,mw,s⟩) (A':=A2) (ca':=c2) (M':=A4) (cm':=c4)
 refine bodyPost_ret (res_span1 rfl rfl Y5) rfl ⟨A2,c2,A4,c4,rfl,?_,?_,?_⟩
 ·refine Own.mono (B:=w.heap.size + 2) ?_ lX
  iterate 10 (refine Own.far ?_ (.inl (by simp)) _)
  exact oA4
 ·refine Own.mono (B:=w.heap.size + 2) ?_ lX
  iterate 10 (refine Own.far ?_ (.inl (by simp)) _)
  exact o4.mono (by omega)
 ·iterate 10 (refine Below.setCell ?_ (by simp) _)
  exact b4
end
structure CopX (w:World) (B:Nat) (A:Option Addr) (n cap:Nat) (vs:List Sv):Prop where
 len:vs.length=n
 row_:w.ownsRow B 72 8 (.slice A n cap) n (flat8 vs)
 words:∀ v ∈ vs,Own w B v.A v.d.aw∧Own w B v.M v.d.mw
 apart:∀ v ∈ vs,∀ g,A=some ⟨g,0,none⟩ → (0 < v.d.aw.length → v.A ≠ some ⟨g,0,none⟩)∧(0 < v.d.mw.length → v.M ≠ some ⟨g,0,none⟩)
theorem CopX.srow {w:World} {B n cap:Nat} {A:Option Addr} {vs:List Sv} (h:CopX w B A n cap vs):SRow w w.heap.size A (sdsOf vs):=
 ⟨fun hl=>by
  have hn:0 < n:=by rw [← h.len];simpa [sdsOf] using hl
  obtain ⟨_,⟨h1,h2⟩ | ⟨g,cap',cur,e,_⟩⟩:=id h.row_
  ·omega
  ·injection e with e1 _ e3
   subst e1
   have hr:=h.row_
   refine ⟨g,0,rfl,(hr.lt g rfl).2,fun i hi=>?_⟩
   have hi':i < vs.length:=by simpa [sdsOf] using hi
   have hw:=h.words vs[i] (List.getElem_mem hi')
   rw [nth_sds vs i hi']
   exact ⟨vs[i].A,vs[i].ca,vs[i].M,vs[i].cm,sp8_of_owns hr h.len i (by rw [← h.len];exact hi'),hw.1.row,hw.2.row⟩⟩
theorem CopX.later {w w':World} {B n cap:Nat} {A:Option Addr} {vs:List Sv} (h:CopX w B A n cap vs) (hb:Below w.heap.size w w'):CopX w' B A n cap vs:=
 ⟨h.len,owns_laterN h.row_ hb,fun v hv=>⟨(h.words v hv).1.later hb,(h.words v hv).2.later hb⟩,h.apart⟩
theorem CopX.nil (w:World) (B:Nat):CopX w B none 0 0 []:=⟨rfl,World.ownsRow_nil _ _ _ _,fun v hv=>(by cases hv),fun v hv=>(by cases hv)⟩
theorem Own.grown {w w':World} {B:Nat} {A:Option Addr} {ws:List Nat} {row:Option Nat} (h:Own w B A ws) (hg:w.grownBy w' row) (hne:0 < ws.length → ∀ g,A=some ⟨g,0,none⟩ → some g ≠ row):Own w' B A ws:=
 ⟨h.words,fun hl=>by
  obtain ⟨g,e,h1,h2,hc⟩:=h.at_ hl
  have hb:=hg.block g h2 (hne hl g e)
  exact ⟨g,e,h1,Nat.lt_of_lt_of_le h2 hg.size,fun i hi=>⟨(World.cell?_of_block (a:=⟨g,i,none⟩) hb).trans (hc i hi).1,(World.frozen?_of_block (a:=⟨g,i,none⟩) hb).trans (hc i hi).2⟩⟩⟩
theorem CopX.snoc {w w':World} {B n cap cap' g7:Nat} {Ac:Option Addr} {vs:List Sv} {v:Sv} (h:CopX w B Ac n cap vs) (hv1:Own w B v.A v.d.aw) (hv2:Own w B v.M v.d.mw)
  (hvn:∀ g,Ac=some ⟨g,0,none⟩ → (0 < v.d.aw.length → v.A ≠ some ⟨g,0,none⟩)∧(0 < v.d.mw.length → v.M ≠ some ⟨g,0,none⟩))
  (hown:w'.ownsRow B 72 8 (.slice (some ⟨g7,0,none⟩) (n + 1) cap') (n + 1) (flat8 vs ++ cells8 v)) (hg:w.grownBy w' (Value.slice Ac n cap).ownBlock) (hat:(Value.slice Ac n cap).ownBlock=some g7 ∨ w.heap.size ≤ g7):CopX w' B (some ⟨g7,0,none⟩) (n + 1) cap' (vs ++ [v]):=by
 have hall:∀ u ∈ vs ++ [v],(Own w B u.A u.d.aw∧Own w B u.M u.d.mw)∧∀ g,Ac=some ⟨g,0,none⟩ → (0 < u.d.aw.length → u.A ≠ some ⟨g,0,none⟩)∧(0 < u.d.mw.length → u.M ≠ some ⟨g,0,none⟩):=fun u hu=>by
  rw [List.mem_append,List.mem_singleton] at hu
  rcases hu with hu | rfl
  ·exact ⟨h.words u hu,h.apart u hu⟩
  ·exact ⟨⟨hv1,hv2⟩,hvn⟩
 have hform:∀ g,(Value.slice Ac n cap).ownBlock=some g → Ac=some ⟨g,0,none⟩:=fun g hgg=>by
  obtain ⟨_,⟨e,_⟩ | ⟨g',c',cur,e,_⟩⟩:=id h.row_
  ·injection e with e
   subst e
   cases hgg
  ·injection e with e
   subst e
   injection hgg with hgg
   have:g'=g:=hgg
   rw [this]
 have key:∀ (A:Option Addr) (ws:List Nat),Own w B A ws → (∀ g,Ac=some ⟨g,0,none⟩ → 0 < ws.length → A ≠ some ⟨g,0,none⟩) → Own w' B A ws∧(0 < ws.length → A ≠ some ⟨g7,0,none⟩):=fun A ws ho hn=>by
  refine ⟨ho.grown hg (fun hl g e e2=>hn g (hform g e2.symm) hl e),fun hl e=>?_⟩
  rcases hat with hat | hat
  ·exact hn g7 (hform g7 hat) hl e
  ·obtain ⟨q,e2,_,hq,_⟩:=ho.at_ hl
   rw [e] at e2
   injection e2 with e2
   injection e2 with e2
   omega
 refine ⟨by rw [List.length_append,h.len];rfl,by rw [flat8_app];simpa [flat8] using hown,fun u hu=>?_,fun u hu g e=>?_⟩
 ·obtain ⟨⟨g1,g2⟩,g3⟩:=hall u hu
  exact ⟨(key _ _ g1 fun g e hl=>(g3 g e).1 hl).1,(key _ _ g2 fun g e hl=>(g3 g e).2 hl).1⟩
 ·injection e with e
  injection e with e
  subst e
  obtain ⟨⟨g1,g2⟩,g3⟩:=hall u hu
  exact ⟨(key _ _ g1 fun g e hl=>(g3 g e).1 hl).2,(key _ _ g2 fun g e hl=>(g3 g e).2 hl).2⟩
def WordsLe (l:List Sd):Prop:=∀ d ∈ l,d.aw.length ≤ 17592186044416∧d.mw.length ≤ 17592186044416
theorem nth_mem (l:List Sd) (i:Nat) (h:i < l.length):nth l i ∈ l:=by
 unfold nth
 rw [List.getD_eq_getElem?_getD,List.getElem?_eq_getElem h]
 exact List.getElem_mem h
theorem take_nth (l:List Sd) (i:Nat) (h:i < l.length):l.take (i + 1)=l.take i ++ [nth l i]:=by
 unfold nth
 rw [List.getD_eq_getElem?_getD,List.getElem?_eq_getElem h,List.take_add_one,List.getElem?_eq_getElem h]
 rfl
section
variable {w:World} {A:Option Addr} {l:List Sd} (cap:Nat)
set_option maxHeartbeats 4000000 in
theorem xcopyL_any (hr:SRow w w.heap.size A l) (hl:l.length ≤ 1466015503658) (hw:WordsLe l) :
  Calls Tryz.prog 72 #[.slice A l.length cap] w fun e w'=>∃ A' c' vs,e=.returned (.slice A' l.length c')∧sdsOf vs=l∧CopX w' w.heap.size A' l.length c' vs∧Below w.heap.size w w':=by
 obtain ⟨i0,hi,hz0,hz1,hz2⟩:=info_parts info_sp
 have HW:=Lib.hid hw
 clear hw
 go_enter Tryz.func72,Tryz.ntmps72
 go_wp2_with fail
 go_loopw [3,8] (fun c ii wr=>∃ k:Nat,ii=.int .i64 (k:Nat)∧k ≤ l.length∧∃ (Ac:Option Addr) (capc:Nat) (vs:List Sv),c=.slice Ac k capc∧Hid (sdsOf vs=l.take k)∧CopX wr w.heap.size Ac k capc vs∧w.heap.size ≤ wr.heap.size∧Below w.heap.size w wr) (fun _ ii _=>l.length - (intOf ii).toNat)
 case atStart=>exact ⟨0,rfl,Nat.zero_le _,none,0,[],rfl,Lib.hid rfl,CopX.nil _ _,lX,bX⟩
 case round=>
  obtain ⟨k,rfl,hk,Ac,capc,vs,rfl,HS,oC,hsz,hb_wr⟩:=hrel
  have hsr:=hb_wr.size
  by_cases hlt:k < l.length
  ·obtain ⟨b,off,hAe,hbb,hc⟩:=(hr.later hb_wr).at_ (by omega)
   obtain ⟨Aa,ca,Am,cm,c8,ra,rm⟩:=hc k hlt
   obtain ⟨wa,wm⟩:=HW.out _ (nth_mem l k hlt)
   have hnx:=take_nth l k hlt
   obtain ⟨d,hd⟩:∃ d,Hid (nth l k=d):=⟨_,rfl⟩
   rw [hd.out] at c8 ra rm wa wm hnx
   have HNX:=Lib.hid hnx
   obtain ⟨c0,c1,c2,c3,c4,c5,c6,c7⟩:=id c8
   have i1:(k:Int) < (l.length:Int):=by omega
   have i2:(0:Int) ≤ (k:Int):=by omega
   have HO:=Lib.hid fun (w:World) ha hm=>xone_any (w:=w) (A:=Aa) (M:=Am) ca cm d ha hm wa wm
   unfold OneS at HO
   subst hAe
   clear hc hnx c8 wa wm
   obtain ⟨f,p,z,an,aw,mn,mw,s⟩:=d
   unfold spv at HO
   simp only at *
   go_wp2_with fail
   go_at_call 150
   refine (HO.out _ (ra.later bX) (rm.later bX)).mono ?_
   rintro e w5 ⟨A5,C5,M5,D5,rfl,o5,o5',hb_w5⟩
   have hs5:=hb_w5.size
   (try simp only [zA] at hs5)
   have b55:Below wr.heap.size wr w5:=below_trans ((Below.refl wr.heap.size wr).alloc (Nat.le_refl _) _) hb_w5 (by simp)
   have b5:Below w.heap.size w w5:=hb_wr.trans (b55.mono hsz)
   have oC5:=oC.later b55
   have oA:Own w5 w.heap.size A5 aw:=o5.mono lX
   have oM:Own w5 w.heap.size M5 mw:=o5'.mono lX
   have hvn:∀ g,Ac=some ⟨g,0,none⟩ → (0 < aw.length → A5 ≠ some ⟨g,0,none⟩)∧(0 < mw.length → M5 ≠ some ⟨g,0,none⟩):=fun g e=>by
    have hg:g < wr.heap.size:=(oC.row_.lt g (by rw [e];rfl)).2
    have hwr:wr.heap.size ≤ (wr.alloc (.cells #[.int .i64 f,.int .i64 p,.int .i64 z,.int .i64 an,.slice Aa aw.length ca,.int .i64 mn,.slice Am mw.length cm,.bool s] 72)).heap.size:=by simp
    refine ⟨fun hl e2=>?_,fun hl e2=>?_⟩
    ·obtain ⟨q,e3,hq,_⟩:=o5.at_ hl
     rw [e2] at e3
     injection e3 with e3
     injection e3 with e3
     omega
    ·obtain ⟨q,e3,hq,_⟩:=o5'.at_ hl
     rw [e2] at e3
     injection e3 with e3
     injection e3 with e3
     omega
   have HSN:=Lib.hid fun (w6 w7:World) (g7 cap7:Nat) (hb:Below w5.heap.size w5 w6) h1 h2 h3=>CopX.snoc (w:=w6) (w':=w7) (g7:=g7) (cap':=cap7) (v:=⟨⟨f,p,z,an,aw,mn,mw,s⟩,A5,C5,M5,D5⟩) (oC5.later hb) (oA.later hb) (oM.later hb) hvn h1 h2 h3
   have oR:=oC5.row_
   clear o5 o5' oC oA oM hvn ra rm c0 c1 c2 c3 c4 c5 c6 c7 oC5
   go_wp2_with (at_builtin;refine wpList_append_lies _ ?_ (.tmp 12) (.tmp 15) 29 ?_ w.heap.size 72 i0 _ 8 96 Tryz.underlying29 hi hz0 hz1 hz2 rfl (by omega) (.slice Ac k capc) k (flat8 vs) ?_ (oR.alloc _) ⟨w5.heap.size,0,none⟩ 1 1 (cells8 ⟨⟨f,p,z,an,aw,mn,mw,s⟩,A5,C5,M5,D5⟩) ?_ (by simp [cells8]) ?_ (by intro u hu;have:=flat8_one [⟨⟨f,p,z,an,aw,mn,mw,s⟩,A5,C5,M5,D5⟩] u (by simpa [flat8] using hu);exact this) (by omega) (by unfold maxLen;omega) (by omega) lX _ rfl ?_;rfl;rfl;rfl;rfl;(intro j u hj;rw [add_form];have hj8:j < 8:=(by have:=(List.getElem?_eq_some_iff.1 hj).1;simpa [cells8] using this);have hg:=heap_alloc_new w5 (.cells #[.int .i64 f,.int .i64 p,.int .i64 z,.int .i64 an,.slice A5 aw.length C5,.int .i64 mn,.slice M5 mw.length D5,.bool s] 72);rw [cell_of_row _ _ _ _ _ _ hg,Nat.zero_add,← hj];simp [cells8]);intro g cap7 w7 hown7 hg7 hat7 hlt7;have hb_w7:Below w.heap.size _ w7:=(Below.refl _ _).grown hg7 lX (fun b hb=>oR.lt b hb |>.1);have hs7:=hb_w7.size;(try simp only [zA] at hs7))
   go_roundw
   case rel=>
    exact ⟨k + 1,by go_num,by omega,some ⟨g,0,none⟩,cap7,vs ++ [⟨⟨f,p,z,an,aw,mn,mw,s⟩,A5,C5,M5,D5⟩],rfl,Lib.hid (by rw [sds_app,HS.out,HNX.out];rfl),HSN.out _ _ _ _ bX hown7 hg7 (by rcases hat7 with h | h;exact .inl h;exact .inr (by rw [h];exact Nat.le_refl _)),lX,bX⟩
   case measure=>simp [intOf];omega
  ·obtain rfl:k=l.length:=by omega
   have hsd:=HS.out
   rw [List.take_length] at hsd
   have HSD:=Lib.hid hsd
   clear hsd
   go_wp2
   go_ret
   exact ⟨Ac,capc,vs,rfl,HSD.out,oC,hb_wr⟩
end
theorem res_hp2 {fn:Func} {p u:Tmp} (h:fn.results=#[.cell p 31,.tmp u]) {tmps:Array Value} {w:World} {g:Nat} {v0 v1 v2 v3:Value} (hp:tmps.getD p undef=.pointer (some ⟨g,0,none⟩)) (c:B4 w g v0 v1 v2 v3) :
  (results fn tmps).run Tryz.prog w=.ok (.tuple #[.agg #[v0,v1,v2,v3],tmps.getD u undef]) w:=by
 rw [results_cell_tmp h,hp]
 simp [go_sem,Result.andThen,c.c0,c.c1,c.c2,c.c3,asAddr]
theorem res_hp3 {fn:Func} {p u x:Tmp} (h:fn.results=#[.cell p 31,.tmp u,.tmp x]) {tmps:Array Value} {w:World} {g:Nat} {v0 v1 v2 v3:Value} (hp:tmps.getD p undef=.pointer (some ⟨g,0,none⟩)) (c:B4 w g v0 v1 v2 v3) :
  (results fn tmps).run Tryz.prog w=.ok (.tuple #[.agg #[v0,v1,v2,v3],tmps.getD u undef,tmps.getD x undef]) w:=by
 have hp2:tmps[p]?.getD undef=.pointer (some ⟨g,0,none⟩):=by rw [← hp];simp
 simp only [results,h]
 simp [go_sem,Result.andThen,c.c0,c.c1,c.c2,c.c3,asAddr,hp2]
theorem B4.all {w:World} {b:Nat} {v0 v1 v2 v3:Value} (h:B4 w b v0 v1 v2 v3) (u0 u1 u2 u3:Value):B4 ((((w.setCell ⟨b,0,none⟩ u0).setCell ⟨b,1,none⟩ u1).setCell ⟨b,2,none⟩ u2).setCell ⟨b,3,none⟩ u3) b u0 u1 u2 u3:=(((h.set0 u0).set1 u1).set2 u2).set3 u3
theorem OwnsH.all {w:World} {B b:Nat} {v:Hv} {h:Hp} (o:OwnsH w B v h) (hb:b < B) (u0 u1 u2 u3:Value):OwnsH ((((w.setCell ⟨b,0,none⟩ u0).setCell ⟨b,1,none⟩ u1).setCell ⟨b,2,none⟩ u2).setCell ⟨b,3,none⟩ u3) B v h:=
 (((o.far (p:=⟨b,0,none⟩) hb u0).far (p:=⟨b,1,none⟩) hb u1).far (p:=⟨b,2,none⟩) hb u2).far (p:=⟨b,3,none⟩) hb u3
theorem below_all {B b:Nat} {a w:World} (o:Below B a w) (hb:B ≤ b) (u0 u1 u2 u3:Value):Below B a ((((w.setCell ⟨b,0,none⟩ u0).setCell ⟨b,1,none⟩ u1).setCell ⟨b,2,none⟩ u2).setCell ⟨b,3,none⟩ u3):=
 (((o.setCell (p:=⟨b,0,none⟩) hb u0).setCell (p:=⟨b,1,none⟩) hb u1).setCell (p:=⟨b,2,none⟩) hb u2).setCell (p:=⟨b,3,none⟩) hb u3
theorem OwnsS.grown {w w':World} {B n cap g:Nat} {A:Option Addr} {vs:List Sv} (h:OwnsS w B A n cap vs) (hg:w.grownBy w' (some g)) (hB:g < B):OwnsS w' B A n cap vs:=
 ⟨h.len,h.row_.kept hg (.inr (by
  intro e
  obtain ⟨_,⟨e1,_⟩ | ⟨q,_,_,e1,e2,_⟩⟩:=id h.row_
  ·injection e1 with e1;subst e1;cases e
  ·injection e1 with e1;subst e1;simp [Value.ownBlock] at e;omega)),
  fun x hx=>⟨(h.words x hx).1.grown hg (fun hl q e e2=>by obtain ⟨q',e',h1,_⟩:=(h.words x hx).1.at_ hl;rw [e] at e';injection e' with e';injection e' with e';injection e2 with e2;omega),
   (h.words x hx).2.grown hg (fun hl q e e2=>by obtain ⟨q',e',h1,_⟩:=(h.words x hx).2.at_ hl;rw [e] at e';injection e' with e';injection e' with e';injection e2 with e2;omega)⟩,h.apart⟩
theorem Own.grownLt {w w':World} {B g:Nat} {A:Option Addr} {ws:List Nat} (h:Own w B A ws) (hg:w.grownBy w' (some g)) (hB:g < B):Own w' B A ws:=
 h.grown hg (fun hl q e e2=>by obtain ⟨q',e',h1,_⟩:=h.at_ hl;rw [e] at e';injection e' with e';injection e' with e';injection e2 with e2;omega)
theorem WB.grown {w w':World} {B b g:Nat} {v:Hv} {h:Hp} (m:WB w B b v h) (hg:w.grownBy w' (some g)) (hB:g < B):WB w' B b v h:=by
 obtain ⟨vs,e,h1,h2⟩:=m.s
 have hle:=m.le
 have hbl:=m.lt
 have hx:=m.box
 have ck:∀ (o:Nat) (y:Value),w.cell? ⟨b,o,none⟩=some y → w'.cell? ⟨b,o,none⟩=some y:=fun o y hy=>(World.cell?_of_block (hg.block _ hbl (by intro e;injection e with e;have e:b=g:=e;omega))).trans hy
 have fk:∀ (o:Nat),w.frozen? ⟨b,o,none⟩=false → w'.frozen? ⟨b,o,none⟩=false:=fun o hy=>(World.frozen?_of_block (w:=w) (a:=⟨b,o,none⟩) (hg.block _ hbl (by intro e;injection e with e;have e:b=g:=e;omega))).trans hy
 exact ⟨⟨ck _ _ hx.c0,ck _ _ hx.c1,ck _ _ hx.c2,ck _ _ hx.c3,fk _ hx.f0,fk _ hx.f1,fk _ hx.f2,fk _ hx.f3⟩,hle,m.a.grownLt hg hB,m.u.grownLt hg hB,⟨vs,e,h1.grown hg hB,h2⟩,m.na,m.nu⟩
def FreshH (w:World) (h:Hp) (y:Int) (e:Ending) (w':World):Prop:=∃ v,e=.returned (.tuple #[hpV v h,.int .i64 y])∧OwnsH w' w.heap.size v h∧Below w.heap.size w w'
def StoE (h:Hp) (a:Nat) (f:Int) (x:Nat) (r:Bool) (h':Hp) (y:Int):Prop:=(¬ OkH h∧h'=hp0∧y=2) ∨ (OkH h∧SrE h a f x r y∧y ≠ 0∧h'=h) ∨ (OkH h∧SrE h a f x r y∧y=0∧h'=stoH h (a + 1 + f.toNat) x)
theorem StoE.ex (h:Hp) (a:Nat) (f:Int) (x:Nat) (r:Bool):∃ h' y,StoE h a f x r h' y:=by
 by_cases hk:OkH h
 ·obtain ⟨y,hy⟩:=SrE.ex h a f x r
  by_cases h0:y=0
  ·exact ⟨_,y,.inr (.inr ⟨hk,hy,h0,rfl⟩)⟩
  ·exact ⟨_,y,.inr (.inl ⟨hk,hy,h0,rfl⟩)⟩
 ·exact ⟨_,_,.inl ⟨hk,rfl,rfl⟩⟩
def MarE (h:Hp) (a:Nat) (h':Hp) (b:Bool) (y:Int):Prop:=(¬ OkH h∧h'=hp0∧b=false∧y=2) ∨ (OkH h∧fnY h a ≠ 0∧h'=h∧b=false∧y=fnY h a) ∨ (OkH h∧fnY h a=0∧h'=marH h (fnO h a).i (fnO h a).k∧b=(fnO h a).b∧y=0)
theorem MarE.ex (h:Hp) (a:Nat):∃ h' b y,MarE h a h' b y:=by
 by_cases hk:OkH h
 ·by_cases h0:fnY h a=0
  ·exact ⟨_,_,_,.inr (.inr ⟨hk,h0,rfl,rfl,rfl⟩)⟩
  ·exact ⟨_,_,_,.inr (.inl ⟨hk,h0,rfl,rfl,rfl⟩)⟩
 ·exact ⟨_,_,_,.inl ⟨hk,rfl,rfl,rfl⟩⟩
def UnmE (h:Hp) (h':Hp) (y:Int):Prop:=(¬ OkH h∧h'=hp0∧y=2) ∨ (OkH h∧¬ SweptH h∧h'=h∧y=5) ∨ (OkH h∧SweptH h∧h'=unmH h∧y=0)
theorem UnmE.ex (h:Hp):∃ h' y,UnmE h h' y:=by
 by_cases hk:OkH h
 ·by_cases h0:SweptH h
  ·exact ⟨_,_,.inr (.inr ⟨hk,h0,rfl,rfl⟩)⟩
  ·exact ⟨_,_,.inr (.inl ⟨hk,h0,rfl,rfl⟩)⟩
 ·exact ⟨_,_,.inl ⟨hk,rfl,rfl⟩⟩
def TrnE (h:Hp) (h':Hp) (y:Int):Prop:=(¬ OkH h∧h'=hp0∧y=2) ∨ (OkH h∧¬ SweptH h∧h'=h∧y=5) ∨ (OkH h∧SweptH h∧¬ ClosedH h∧h'=h∧y=5) ∨ (OkH h∧SweptH h∧ClosedH h∧h'=trnH h∧y=0)
theorem TrnE.ex (h:Hp):∃ h' y,TrnE h h' y:=by
 by_cases hk:OkH h
 ·by_cases h0:SweptH h
  ·by_cases h1:ClosedH h
   ·exact ⟨_,_,.inr (.inr (.inr ⟨hk,h0,h1,rfl,rfl⟩))⟩
   ·exact ⟨_,_,.inr (.inr (.inl ⟨hk,h0,h1,rfl,rfl⟩))⟩
  ·exact ⟨_,_,.inr (.inl ⟨hk,h0,rfl,rfl⟩)⟩
 ·exact ⟨_,_,.inl ⟨hk,rfl,rfl⟩⟩
def ObjE (h:Hp) (t:List Nat) (y:Int):Prop:=(¬ OkH h∧t=[]∧y=2) ∨ (OkH h∧t=addrs (cursH h)∧y=0)
theorem ObjE.ex (h:Hp):∃ t y,ObjE h t y:=by
 by_cases hk:OkH h
 ·exact ⟨_,_,.inr ⟨hk,rfl,rfl⟩⟩
 ·exact ⟨_,_,.inl ⟨hk,rfl,rfl⟩⟩
section
variable {w:World} {v:Hv} {h:Hp}
end
end Go.Proofs.YtafpkaifaccehaaGreatDoor
