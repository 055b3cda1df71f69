/- Parts of the proof. -/
import Derived.Test.YtafpkaifaccehaaGreatDoorScavP18
import Derived.ProofKit
import Derived.OpenShut
import Derived.ShutString
import Derived.ChangeOld
import Derived.SizedLaws
import Derived.Lib.SmallJoins
import Derived.Deep.Slices
import Derived.LaidMore
import Derived.Stop.Joined
import Derived.Test.YtafpkaifaccehaaGreatDoorRows
set_option maxRecDepth 100000
set_option linter.unusedVariables false
set_option linter.unusedSimpArgs false
namespace Go.Proofs.YtafpkaifaccehaaGreatDoor
open Go.ChangeShapes Go.WideShapes Go.ChangeAt Go.RowKit Go.Joins
theorem own:ownKnob Tryz.prog.godebug=none:=by kernel_rfl
theorem laidOut:laidOutB Tryz.prog=true:=by kernel_rfl
theorem cells_u64:Tryz.prog.cellsOf 32=1:=by kernel_rfl
theorem bytes_u64:Tryz.prog.bytesOf 32=8:=by kernel_rfl
theorem cells_span:Tryz.prog.cellsOf 72=8:=by kernel_rfl
theorem bytes_span:Tryz.prog.bytesOf 72=96:=by kernel_rfl
theorem cells_int:Tryz.prog.cellsOf 3=1:=by kernel_rfl
theorem gSizes : Tryz.prog.globalNamed "besom/class.sizes" = some 0 := by kernel_rfl
theorem tSizes:(Tryz.prog.globals[0]?).map (·.type)=some 276:=by kernel_rfl
abbrev laidSizes : List (String × DataW Unit) := [("besom/class.sizes", Rows.laid_besom_class_sizes)]
theorem door_met (os:Os) (args:Array Value):laidMetH Tryz.prog laidSizes ((World.doorLaid Tryz.prog 400 os).forCall (fun _ _=>0) ⟨#[],args,[]⟩).memory:=
 laidMetH_of_parts3 (fuel:=8) (laidMet_of_run' 8 (by kernel_rfl) (by kernel_rfl)) (by kernel_rfl) (by kernel_rfl)
theorem at_take {l:List Value} {j:Nat} {v:Value} (h:(l.drop j).take 1=[v]):l[j]?=some v:=by
 have:=congrArg (·[0]?) h
 simpa [List.getElem?_take,List.getElem?_drop] using this
theorem of_laid {W:World} (h:laidMetH Tryz.prog laidSizes W):Sizes W:=by
 rw [MakeChecks.laidMetH_plain _ _ _ (by kernel_rfl)] at h
 obtain ⟨ps,⟨g0,t0,cs0,f0,p0,q0,hg0,ht0,hv0,hd0,_,_⟩,_,_⟩:=h
 obtain rfl:=Option.some.inj (gSizes.symm.trans hg0)
 obtain rfl:=Option.some.inj (tSizes.symm.trans ht0)
 obtain ⟨xs,m1,rfl,hx1,hlen,hn3,hel⟩:=DataW.trod_array Tryz.underlying276 hd0
 have c3:=cells_int
 simp only [Prod.mk.injEq,Rows.laid_besom_class_sizes,DataW.agg.injEq] at hx1
 match xs,hn3,hx1,hel with
 | [x0,x1,x2,x3],_,hx1,hel=>
  simp only [List.map_cons,List.map_nil,List.cons.injEq] at hx1
  have v0:=World.var?_cell hg0 hv0 0
  have v1:=World.var?_cell hg0 hv0 1
  have v2:=World.var?_cell hg0 hv0 2
  have v3:=World.var?_cell hg0 hv0 3
  have h0:=hel 0 (by decide)
  have h1:=hel 1 (by decide)
  have h2:=hel 2 (by decide)
  have h3:=hel 3 (by decide)
  obtain ⟨k0,a0,b0,_⟩:=DataW.trod_int Tryz.underlying3 (show DataW.trod _ Tryz.prog W 0 _ false m1 3 _=some x0 from h0)
  obtain ⟨k1,a1,b1,_⟩:=DataW.trod_int Tryz.underlying3 (show DataW.trod _ Tryz.prog W 0 _ false m1 3 _=some x1 from h1)
  obtain ⟨k2,a2,b2,_⟩:=DataW.trod_int Tryz.underlying3 (show DataW.trod _ Tryz.prog W 0 _ false m1 3 _=some x2 from h2)
  obtain ⟨k3,a3,b3,_⟩:=DataW.trod_int Tryz.underlying3 (show DataW.trod _ Tryz.prog W 0 _ false m1 3 _=some x3 from h3)
  rw [b0,b1,b2,b3] at hx1
  simp only [DataW.lit.injEq,Lit.int.injEq,true_and,and_true] at hx1
  rw [c3] at a0 a1 a2 a3
  obtain ⟨l⟩:=cs0
  have e0:=at_take (j:=0) (by simpa using a0)
  have e1:=at_take (j:=1) (by simpa using a1)
  have e2:=at_take (j:=2) (by simpa using a2)
  have e3:=at_take (j:=3) (by simpa using a3)
  obtain ⟨z0,z1,z2,z3⟩:k0=2∧k1=4∧k2=8∧k3=16:=by
   refine ⟨?_,?_,?_,?_⟩ <;> omega
  subst z0 z1 z2 z3
  exact ⟨by rw [v0];simpa using e0,by rw [v1];simpa using e1,by rw [v2];simpa using e2,by rw [v3];simpa using e3⟩
theorem cells_heap:Tryz.prog.cellsOf 31=4:=by kernel_rfl
theorem words_of {zs:List Int} (h:∀ n ∈ zs,(Lit.int .u64 n).wf=true) (len:Nat) (hl:len ≤ zs.length) :
  ((zs.take len).map Int.toNat).length=len∧Words ((zs.take len).map Int.toNat)∧∀ i,i < len → ((((zs.take len).map Int.toNat).getD i 0:Nat):Int)=zs.getD i 0:=by
 have hb:∀ n ∈ zs,0 ≤ n∧n < 18446744073709551616:=fun n hn=>by
  have:=bounds_u64 (h n hn)
  omega
 refine ⟨by rw [List.length_map,List.length_take];omega,fun x hx=>?_,fun i hi=>?_⟩
 ·rw [List.mem_map] at hx
  obtain ⟨y,hy,rfl⟩:=hx
  have:=hb y (List.mem_of_mem_take hy)
  unfold W64
  omega
 ·have hz:i < zs.length:=by omega
  have:=hb zs[i] (List.getElem_mem hz)
  simp only [List.getD_eq_getElem?_getD,List.getElem?_map,List.getElem?_take,hi,if_true,List.getElem?_eq_getElem hz,Option.map_some,Option.getD_some]
  omega
theorem mem_weightsAll {H:Type} (P:Program) (e:TypeId):∀ (l:List (DataW H)) (d:DataW H),d ∈ l → ∀ x ∈ d.weights P e,x ∈ DataW.weightsAll P e l
 | [],d,hd,x,hx=>by cases hd
 | c :: l,d,hd,x,hx=>by
  rw [DataW.weightsAll,List.mem_append]
  rcases List.mem_cons.1 hd with rfl | hd
  ·exact .inl hx
  ·exact .inr (mem_weightsAll P e l d hd x hx)
section
variable {H:Type} {enc:TypeId × Value → H} {W:World}
theorem open_words {fuel:Nat} {v:Value} {y:DataW H × List MemPlace} (h:DataW.trod enc Tryz.prog W 0 (fun _=>true) true fuel 22 [v]=some y) (hw:∀ x ∈ y.1.weights Tryz.prog 22,x ≤ reachBytes) :
  ∃ (A:Option Addr) (cap:Nat) (ws:List Nat),v=.slice A ws.length cap∧Row W W.heap.size A ws∧ws.length ≤ 17592186044416:=by
 rcases open_ints Tryz.underlying22 Tryz.underlying32 cells_u64 h with ⟨hcs,hx⟩ | ⟨a,l,c,zs,hcs,_,hl,hm,hz,hx,hcell,hwz⟩
 ·injection hcs with hcs
  exact ⟨none,0,[],hcs,⟨fun x hx=>by simp at hx,fun h=>by simp at h⟩,Nat.zero_le _⟩
 ·injection hcs with hcs
  simp only [if_true] at hz
  obtain ⟨g1,g2,g3⟩:=words_of hwz l (by omega)
  refine ⟨some a,c,(zs.take l).map Int.toNat,by rw [g1];exact hcs,⟨g2,fun h0=>?_⟩,?_⟩
  ·rw [g1] at h0
   obtain ⟨b,off,spot⟩:=a
   have hc0:=hcell 0 (by omega)
   have hspot:spot=none:=by simpa [Addr.add] using World.cell?_spot hc0
   subst hspot
   have hlt:=World.block_lt_of_cell? W _ hc0
   refine ⟨b,off,rfl,by simpa [Addr.add] using hlt,fun i hi=>?_⟩
   rw [g1] at hi
   have:=hcell i (by omega)
   rw [add_form] at this
   rw [this,g3 i hi]
  ·rw [g1]
   have hz2:(lits .u64 (zs.take l):List (DataW H)).length + (lits .u64 (zs.drop l):List (DataW H)).length=zs.length:=by
    simp [lits];omega
   have:=hw (((lits .u64 (zs.take l):List (DataW H)).length + (lits .u64 (zs.drop l):List (DataW H)).length) * Tryz.prog.bytesOf 32) (by rw [hx];simp [DataW.weights,Tryz.underlying22])
   rw [hz2,bytes_u64] at this
   simp only [reachBytes] at this
   omega
theorem open_bcells {fuel:Nat} {c0 c1:Value} {x:DataW H × List MemPlace} (h:DataW.trod enc Tryz.prog W 0 (fun _=>true) true fuel 26 [c0,c1]=some x) (hw:∀ y ∈ x.1.weights Tryz.prog 26,y ≤ reachBytes) :
  ∃ (n:Int) (A:Option Addr) (cap:Nat) (ws:List Nat),c0=.int .i64 n∧c1=.slice A ws.length cap∧Row W W.heap.size A ws∧ws.length ≤ 17592186044416:=by
 obtain ⟨xs,n,_,hx,_,hlen,hf⟩:=DataW.trod_struct Tryz.underlying26 h
 match xs,hlen with
 | [y0,y1],_=>
  have g0:=hf 0 _ rfl
  have g1:=hf 1 _ rfl
  obtain ⟨k,e0,_,_⟩:=DataW.trod_int Tryz.underlying3 (show DataW.trod enc Tryz.prog W 0 (fun _=>true) true n 3 [c0]=some y0 from g0)
  injection e0 with e0
  obtain ⟨A,cap,ws,e1,hr,hl⟩:=open_words (show DataW.trod enc Tryz.prog W 0 (fun _=>true) true n 22 [c1]=some y1 from g1) (fun z hz=>hw z (by
   rw [hx]
   simp only [DataW.weights,Tryz.underlying26]
   simp only [DataW.weightsEach,List.map_cons,List.map_nil,List.mem_append]
   exact .inr (.inl hz)))
  exact ⟨k,A,cap,ws,e0,e1,hr,hl⟩
theorem open_scells {fuel:Nat} {cs:List Value} {x:DataW H × List MemPlace} (h:DataW.trod enc Tryz.prog W 0 (fun _=>true) true fuel 72 cs=some x) (hw:∀ y ∈ x.1.weights Tryz.prog 72,y ≤ reachBytes) :
  ∃ v:Sv,cs=cells8 v∧Row W W.heap.size v.A v.d.aw∧Row W W.heap.size v.M v.d.mw∧v.d.aw.length ≤ 17592186044416∧v.d.mw.length ≤ 17592186044416:=by
 obtain ⟨xs,n,_,hx,hcl,hlen,hf⟩:=DataW.trod_struct Tryz.underlying72 h
 rw [cells_span] at hcl
 match cs,hcl,xs,hlen with
 | [v0,v1,v2,v3,v4,v5,v6,v7],_,[y0,y1,y2,y3,y4,y5],_=>
  have g0:=hf 0 _ rfl
  have g1:=hf 1 _ rfl
  have g2:=hf 2 _ rfl
  have g3:=hf 3 _ rfl
  have g4:=hf 4 _ rfl
  have g5:=hf 5 _ rfl
  obtain ⟨k0,e0,_,_⟩:=DataW.trod_int Tryz.underlying3 (show DataW.trod enc Tryz.prog W 0 (fun _=>true) true n 3 [v0]=some y0 from g0)
  obtain ⟨k1,e1,_,_⟩:=DataW.trod_int Tryz.underlying3 (show DataW.trod enc Tryz.prog W 0 (fun _=>true) true n 3 [v1]=some y1 from g1)
  obtain ⟨k2,e2,_,_⟩:=DataW.trod_int Tryz.underlying3 (show DataW.trod enc Tryz.prog W 0 (fun _=>true) true n 3 [v2]=some y2 from g2)
  obtain ⟨k3,A,ca,aw,e3,e4,ra,la⟩:=open_bcells (show DataW.trod enc Tryz.prog W 0 (fun _=>true) true n 26 [v3,v4]=some y3 from g3) (fun z hz=>hw z (by
   rw [hx]
   simp only [DataW.weights,Tryz.underlying72]
   simp only [DataW.weightsEach,List.map_cons,List.map_nil,List.mem_append]
   exact .inr (.inr (.inr (.inl hz)))))
  obtain ⟨k5,M,cm,mw,e5,e6,rm,lm⟩:=open_bcells (show DataW.trod enc Tryz.prog W 0 (fun _=>true) true n 26 [v5,v6]=some y4 from g4) (fun z hz=>hw z (by
   rw [hx]
   simp only [DataW.weights,Tryz.underlying72]
   simp only [DataW.weightsEach,List.map_cons,List.map_nil,List.mem_append]
   exact .inr (.inr (.inr (.inr (.inl hz))))))
  obtain ⟨s,e7,_⟩:=DataW.trod_bool Tryz.underlying4 (show DataW.trod enc Tryz.prog W 0 (fun _=>true) true n 4 [v7]=some y5 from g5)
  injection e0 with e0
  injection e1 with e1
  injection e2 with e2
  injection e7 with e7
  exact ⟨⟨⟨k0,k1,k2,k3,aw,k5,mw,s⟩,A,ca,M,cm⟩,by rw [e0,e1,e2,e3,e4,e5,e6,e7];rfl,ra,rm,la,lm⟩
theorem open_spans {fuel:Nat} {v:Value} {y:DataW H × List MemPlace} (hf:DataW.trod enc Tryz.prog W 0 (fun _=>true) true fuel 29 [v]=some y) (hw:∀ x ∈ y.1.weights Tryz.prog 29,x ≤ reachBytes) :
  ∃ (A:Option Addr) (cap:Nat) (l:List Sd),v=.slice A l.length cap∧SRow W W.heap.size A l∧l.length ≤ cap∧(A=none → cap=0)∧l.length ≤ 1466015503658∧WordsLe l:=by
 rcases Go.Deep.open_slice Tryz.underlying29 hf with ⟨hcs,_⟩ | ⟨a,len,cap,m,n,D,Pl,hcs,_,hlc,hcm,hm,hx,hel⟩
 ·injection hcs with hcs
  exact ⟨none,0,[],hcs,SRow.nil _ _ _,Nat.le_refl _,fun _=>rfl,Nat.zero_le _,fun d hd=>(by cases hd)⟩
 ·injection hcs with hcs
  simp only [if_true] at hm
  have hm:=hm.symm
  subst hm
  have hd:y.1=_:=congrArg Prod.fst hx
  have each:∀ i,i < len → ∃ u:Sv,(∀ j v,(cells8 u)[j]?=some v → W.cell? ((a.add (i * 8)).add j)=some v)∧Row W W.heap.size u.A u.d.aw∧Row W W.heap.size u.M u.d.mw∧u.d.aw.length ≤ 17592186044416∧u.d.mw.length ≤ 17592186044416:=fun i hi=>by
   obtain ⟨cs',h1,h2⟩:=hel i (by omega)
   obtain ⟨u,rfl,r1,r2,r3,r4⟩:=open_scells h2 (fun y hy=>hw y (by
    rw [hd]
    simp only [DataW.weights,Tryz.underlying29,List.mem_cons,List.mem_append]
    exact .inr (.inl (mem_weightsAll _ _ _ _ (List.mem_map.2 ⟨i,List.mem_range.2 hi,rfl⟩) y hy))))
   rw [cells_span] at h1
   obtain ⟨_,_,hc⟩:=World.cells?_some h1
   refine ⟨u,fun j v hj=>?_,r1,r2,r3,r4⟩
   have hj3:j < 8:=by
    have:=(List.getElem?_eq_some_iff.1 hj).1
    simpa [cells8] using this
   rw [hc j hj3]
   exact hj
  obtain ⟨f,hfs⟩:=Go.Deep.choose_lt each
  have hlen:((List.range len).map fun i=>(f i).d).length=len:=by simp
  have hn:∀ i,i < len → nth ((List.range len).map fun i=>(f i).d) i=(f i).d:=fun i hi=>by
   unfold nth
   simp [List.getD_eq_getElem?_getD,hi]
  refine ⟨some a,cap,(List.range len).map fun i=>(f i).d,by rw [hlen];exact hcs,⟨fun h0=>?_⟩,by rw [hlen];exact hlc,fun e=>(by cases e),?_,fun d hd=>?_⟩
  ·rw [hlen] at h0
   obtain ⟨b,off,spot⟩:=a
   have hc0:=(hfs 0 (by omega)).1 0 _ rfl
   have hspot:spot=none:=by simpa [Addr.add] using World.cell?_spot hc0
   subst hspot
   refine ⟨b,off,rfl,World.block_lt_of_cell? W _ (by simpa [add_form] using hc0),fun i hi=>?_⟩
   rw [hlen] at hi
   rw [hn i hi]
   obtain ⟨hc,r1,r2,_⟩:=hfs i hi
   have k0:=hc 0 _ rfl
   have k1:=hc 1 _ rfl
   have k2:=hc 2 _ rfl
   have k3:=hc 3 _ rfl
   have k4:=hc 4 _ rfl
   have k5:=hc 5 _ rfl
   have k6:=hc 6 _ rfl
   have k7:=hc 7 _ rfl
   rw [add_form,add_form] at k0 k1 k2 k3 k4 k5 k6 k7
   exact ⟨(f i).A,(f i).ca,(f i).M,(f i).cm,⟨by simpa using k0,k1,k2,k3,k4,k5,k6,k7⟩,r1,r2⟩
  ·rw [hlen]
   have:=hw (((List.range len).map D).length * 96 + ((List.range (cap - len)).map fun j=>D (len + j)).length * 96) (by
    rw [hd]
    simp [DataW.weights,Tryz.underlying29,bytes_span,Nat.add_mul])
   simp only [List.length_map,List.length_range,reachBytes] at this
   omega
  ·obtain ⟨i,hi,rfl⟩:=List.mem_map.1 hd
   obtain ⟨_,_,_,r3,r4⟩:=hfs i (List.mem_range.1 hi)
   exact ⟨r3,r4⟩
theorem open_acells {fuel:Nat} {c0:Value} {x:DataW H × List MemPlace} (h:DataW.trod enc Tryz.prog W 0 (fun _=>true) true fuel 24 [c0]=some x) (hw:∀ y ∈ x.1.weights Tryz.prog 24,y ≤ reachBytes) :
  ∃ (A:Option Addr) (cap:Nat) (ws:List Nat),c0=.slice A ws.length cap∧Row W W.heap.size A ws∧ws.length ≤ 17592186044416:=by
 obtain ⟨xs,n,_,hx,_,hlen,hf⟩:=DataW.trod_struct Tryz.underlying24 h
 match xs,hlen with
 | [y0],_=>
  have g0:=hf 0 _ rfl
  exact open_words (show DataW.trod enc Tryz.prog W 0 (fun _=>true) true n 22 [c0]=some y0 from g0) (fun z hz=>hw z (by
   rw [hx]
   simp only [DataW.weights,Tryz.underlying24]
   simp only [DataW.weightsEach,List.map_cons,List.map_nil,List.mem_append]
   exact .inl hz))
theorem open_pcells {fuel:Nat} {c0 c1:Value} {x:DataW H × List MemPlace} (h:DataW.trod enc Tryz.prog W 0 (fun _=>true) true fuel 28 [c0,c1]=some x) (hw:∀ y ∈ x.1.weights Tryz.prog 28,y ≤ reachBytes) :
  ∃ (n:Int) (A:Option Addr) (cap:Nat) (ws:List Nat),c0=.int .i64 n∧c1=.slice A ws.length cap∧Row W W.heap.size A ws∧ws.length ≤ 17592186044416:=by
 obtain ⟨xs,n,_,hx,_,hlen,hf⟩:=DataW.trod_struct Tryz.underlying28 h
 match xs,hlen with
 | [y0],_=>
  have g0:=hf 0 _ rfl
  exact open_bcells (show DataW.trod enc Tryz.prog W 0 (fun _=>true) true n 26 [c0,c1]=some y0 from g0) (fun z hz=>hw z (by
   rw [hx]
   simp only [DataW.weights,Tryz.underlying28]
   simp only [DataW.weightsEach,List.map_cons,List.map_nil,List.mem_append]
   exact .inl hz))
theorem open_heap {r:Reach} {b0:Nat} {v:Value} {d:DataW H} {p:List MemPlace} (hv:Value.okWide Tryz.prog W r b0 31 v) (h:DataW.Trod enc Tryz.prog W 0 (fun _=>true) true 31 v d p) (hw:∀ x ∈ d.weights Tryz.prog 31,x ≤ reachBytes) :
  ∃ (u:Hv) (h:Hp),v=hpV u h∧HM W W.heap.size u h∧Short h∧(u.V=none → u.cv=0):=by
 obtain ⟨cs,rfl,hsz⟩:=okWide_struct Tryz.underlying31 hv
 obtain ⟨fuel,hf⟩:=h
 obtain ⟨xs,n,_,hx,hcl,hlen,hff⟩:=DataW.trod_struct Tryz.underlying31 hf
 rw [cells_heap] at hcl
 have hd:d=_:=congrArg Prod.fst hx
 obtain ⟨l⟩:=cs
 simp only [Value.cells] at hcl hff
 match l,hcl,xs,hlen with
 | [v0,v1,v2,v3],_,[y0,y1,y2],_=>
  have g0:=hff 0 _ rfl
  have g1:=hff 1 _ rfl
  have g2:=hff 2 _ rfl
  obtain ⟨A,ca,ws,e0,rA,lA⟩:=open_acells (show DataW.trod enc Tryz.prog W 0 (fun _=>true) true n 24 [v0]=some y0 from g0) (fun z hz=>hw z (by
   rw [hd]
   simp only [DataW.weights,Tryz.underlying31]
   simp only [DataW.weightsEach,List.map_cons,List.map_nil,List.mem_append]
   exact .inl hz))
  obtain ⟨k,U,cu,us,e1,e2,rU,lU⟩:=open_pcells (show DataW.trod enc Tryz.prog W 0 (fun _=>true) true n 28 [v1,v2]=some y1 from g1) (fun z hz=>hw z (by
   rw [hd]
   simp only [DataW.weights,Tryz.underlying31]
   simp only [DataW.weightsEach,List.map_cons,List.map_nil,List.mem_append]
   exact .inr (.inl hz)))
  obtain ⟨V,cv,l,e3,rV,_,nV,lV,wV⟩:=open_spans (show DataW.trod enc Tryz.prog W 0 (fun _=>true) true n 29 [v3]=some y2 from g2) (fun z hz=>hw z (by
   rw [hd]
   simp only [DataW.weights,Tryz.underlying31]
   simp only [DataW.weightsEach,List.map_cons,List.map_nil,List.mem_append]
   exact .inr (.inr (.inl hz))))
  exact ⟨⟨A,ca,U,cu,V,cv⟩,⟨ws,k,us,l⟩,by rw [e0,e1,e2,e3];rfl,⟨rA,rU,rV⟩,⟨lV,lA,lU,wV⟩,nV⟩
end
end Go.Proofs.YtafpkaifaccehaaGreatDoor
namespace Go.Proofs.YtafpkaifaccehaaGreatDoor
open Go.ChangeShapes Go.WideShapes Go.ChangeAt Go.RowKit Go.Joins
theorem cells_scav:Tryz.prog.cellsOf 79=8:=by kernel_rfl
section
variable {H:Type} {enc:TypeId × Value → H} {W:World}
theorem open_hcells {fuel:Nat} {v0 v1 v2 v3:Value} {x:DataW H × List MemPlace} (h:DataW.trod enc Tryz.prog W 0 (fun _=>true) true fuel 31 [v0,v1,v2,v3]=some x) (hw:∀ y ∈ x.1.weights Tryz.prog 31,y ≤ reachBytes) :
  ∃ (u:Hv) (h:Hp),v0=.slice u.A h.ws.length u.ca∧v1=.int .i64 h.n∧v2=.slice u.U h.us.length u.cu∧v3=.slice u.V h.l.length u.cv∧HM W W.heap.size u h∧Short h∧(u.V=none → u.cv=0):=by
 obtain ⟨xs,n,_,hx,hcl,hlen,hff⟩:=DataW.trod_struct Tryz.underlying31 h
 match xs,hlen with
 | [y0,y1,y2],_=>
  have g0:=hff 0 _ rfl
  have g1:=hff 1 _ rfl
  have g2:=hff 2 _ rfl
  obtain ⟨A,ca,ws,e0,rA,lA⟩:=open_acells (show DataW.trod enc Tryz.prog W 0 (fun _=>true) true n 24 [v0]=some y0 from g0) (fun z hz=>hw z (by
   rw [hx]
   simp only [DataW.weights,Tryz.underlying31]
   simp only [DataW.weightsEach,List.map_cons,List.map_nil,List.mem_append]
   exact .inl hz))
  obtain ⟨k,U,cu,us,e1,e2,rU,lU⟩:=open_pcells (show DataW.trod enc Tryz.prog W 0 (fun _=>true) true n 28 [v1,v2]=some y1 from g1) (fun z hz=>hw z (by
   rw [hx]
   simp only [DataW.weights,Tryz.underlying31]
   simp only [DataW.weightsEach,List.map_cons,List.map_nil,List.mem_append]
   exact .inr (.inl hz)))
  obtain ⟨V,cv,l,e3,rV,_,nV,lV,wV⟩:=open_spans (show DataW.trod enc Tryz.prog W 0 (fun _=>true) true n 29 [v3]=some y2 from g2) (fun z hz=>hw z (by
   rw [hx]
   simp only [DataW.weights,Tryz.underlying31]
   simp only [DataW.weightsEach,List.map_cons,List.map_nil,List.mem_append]
   exact .inr (.inr (.inl hz))))
  exact ⟨⟨A,ca,U,cu,V,cv⟩,⟨ws,k,us,l⟩,e0,e1,e2,e3,⟨rA,rU,rV⟩,⟨lV,lA,lU,wV⟩,nV⟩
theorem open_scav {r:Reach} {b0:Nat} {v:Value} {d:DataW H} {p:List MemPlace} (hv:Value.okWide Tryz.prog W r b0 79 v) (h:DataW.Trod enc Tryz.prog W 0 (fun _=>true) true 79 v d p) (hw:∀ x ∈ d.weights Tryz.prog 79,x ≤ reachBytes) :
  ∃ (u:Hv) (O:Option Addr) (co:Nat) (s:Sc),v=scV u O co s∧SM W u O s∧Short s.h∧(u.V=none → u.cv=0)∧s.os.length ≤ 17592186044416∧s.fa < W64∧s.go < W64:=by
 obtain ⟨cs,rfl,hsz⟩:=okWide_struct Tryz.underlying79 hv
 obtain ⟨fuel,hf⟩:=h
 obtain ⟨xs,n,_,hx,hcl,hlen,hff⟩:=DataW.trod_struct Tryz.underlying79 hf
 rw [cells_scav] at hcl
 have hd:d=_:=congrArg Prod.fst hx
 obtain ⟨l⟩:=cs
 simp only [Value.cells] at hcl hff
 match l,hcl,xs,hlen with
 | [v0,v1,v2,v3,v4,v5,v6,v7],_,[y0,y1,y2,y3],_=>
  have g0:=hff 0 _ rfl
  have g1:=hff 1 _ rfl
  have g2:=hff 2 _ rfl
  have g3:=hff 3 _ rfl
  obtain ⟨u,hh,e0,e1,e2,e3,m,sh,nn⟩:=open_hcells (show DataW.trod enc Tryz.prog W 0 (fun _=>true) true n 31 [v0,v1,v2,v3]=some y0 from g0) (fun z hz=>hw z (by
   rw [hd]
   simp only [DataW.weights,Tryz.underlying79]
   simp only [DataW.weightsEach,List.map_cons,List.map_nil,List.mem_append]
   exact .inl hz))
  obtain ⟨k,O,co,os,e4,e5,rO,lO⟩:=open_bcells (show DataW.trod enc Tryz.prog W 0 (fun _=>true) true n 26 [v4,v5]=some y1 from g1) (fun z hz=>hw z (by
   rw [hd]
   simp only [DataW.weights,Tryz.underlying79]
   simp only [DataW.weightsEach,List.map_cons,List.map_nil,List.mem_append]
   exact .inr (.inl hz)))
  obtain ⟨a,e6,_,wa⟩:=DataW.trod_int Tryz.underlying32 (show DataW.trod enc Tryz.prog W 0 (fun _=>true) true n 32 [v6]=some y2 from g2)
  obtain ⟨b,e7,_,wb⟩:=DataW.trod_int Tryz.underlying32 (show DataW.trod enc Tryz.prog W 0 (fun _=>true) true n 32 [v7]=some y3 from g3)
  injection e6 with e6
  injection e7 with e7
  have ba:=bounds_u64 wa
  have bb:=bounds_u64 wb
  refine ⟨u,O,co,⟨hh,k,os,a.toNat,b.toNat⟩,?_,⟨m,rO⟩,sh,nn,lO,?_,?_⟩
  ·rw [e0,e1,e2,e3,e4,e5,e6,e7]
   unfold scV
   simp only [Int.toNat_of_nonneg ba.1,Int.toNat_of_nonneg bb.1]
  ·unfold W64;show a.toNat < _;omega
  ·unfold W64;show b.toNat < _;omega
end
end Go.Proofs.YtafpkaifaccehaaGreatDoor
