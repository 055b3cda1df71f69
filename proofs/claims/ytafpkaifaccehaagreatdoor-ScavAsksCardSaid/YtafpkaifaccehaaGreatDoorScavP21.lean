/- Parts of the proof. -/
import Derived.Test.YtafpkaifaccehaaGreatDoorScavP20
import Derived.Lib.RowBridge
import Derived.Lib.SortBridge
set_option maxRecDepth 100000
set_option linter.unusedVariables false
set_option linter.unusedSimpArgs false
namespace Go.Proofs.YtafpkaifaccehaaGreatDoor
open Go.Shelf Go.RowKit Go.Lib Go.Sort
def cmpD (x y:Int):Int:=if y < x then -1 else if x < y then 1 else 0
theorem lt_cmpD (x y:Int):ltOf cmpD x y=decide (y < x):=by
 unfold ltOf cmpD
 by_cases h1:y < x
 ·simp [h1]
 ·by_cases h2:x < y <;> simp [h1,h2]
theorem swo_cmpD:SWO (ltOf cmpD) where
 irrefl x:=by rw [lt_cmpD];simp
 trans x y z h1 h2:=by rw [lt_cmpD] at *;simp at *;omega
 ntrans x y z h1 h2:=by rw [lt_cmpD] at *;simp at *;omega
theorem tot_cmpD (x y:Int) (h1:ltOf cmpD x y=false) (h2:ltOf cmpD y x=false):x=y:=by rw [lt_cmpD] at *;simp at *;omega
theorem ge_cmpD:(fun x y:Int=>!ltOf cmpD y x)=fun x y=>decide (y ≤ x):=by
 funext x y
 rw [lt_cmpD]
 by_cases h:y ≤ x
 ·have h':¬ x < y:=by omega
  simp [h,h']
 ·have h':x < y:=by omega
  simp [h,h']
theorem isnanI_any (x:Int) (w:World):Calls Tryz.prog 250 #[.int .i64 x] w fun e w'=>e=.returned (.bool false)∧w=w':=by
 have f1:(x != x)=false:=by simp
 go_enter Tryz.func250,Tryz.ntmps250
 go_wp2
 go_ret
 exact ⟨rfl,rfl⟩
theorem compareI_any (x y:Int) (w:World):Calls Tryz.prog 211 #[.int .i64 y,.int .i64 x] w fun e w'=>e=.returned (.int .i64 (cmpD x y))∧w=w':=by
 unfold cmpD
 have HA:=Lib.hid fun (w:World) (a:Int)=>isnanI_any a w
 by_cases h1:y < x
 ·rw [if_pos h1]
  have f1:decide (y < x)=true:=decide_eq_true h1
  clear h1
  go_enter Tryz.func211,Tryz.ntmps211
  go_wp2_with (go_at_call 250;refine (HA.out _ _).mono ?_;rintro e w' ⟨rfl,rfl⟩)
  go_ret
  exact ⟨rfl,rfl⟩
 ·rw [if_neg h1]
  have f1:decide (y < x)=false:=decide_eq_false h1
  by_cases h2:x < y
  ·rw [if_pos h2]
   have f2:decide (x < y)=true:=decide_eq_true h2
   have f3:decide (y > x)=true:=decide_eq_true h2
   clear h1 h2
   go_enter Tryz.func211,Tryz.ntmps211
   go_wp2_with (go_at_call 250;refine (HA.out _ _).mono ?_;rintro e w' ⟨rfl,rfl⟩)
   go_ret
   exact ⟨rfl,rfl⟩
  ·rw [if_neg h2]
   have f2:decide (x < y)=false:=decide_eq_false h2
   have f3:decide (y > x)=false:=decide_eq_false h2
   clear h1 h2
   go_enter Tryz.func211,Tryz.ntmps211
   go_wp2_with (go_at_call 250;refine (HA.out _ _).mono ?_;rintro e w' ⟨rfl,rfl⟩)
   go_ret
   exact ⟨rfl,rfl⟩
theorem runs1_any (x y:Int) (W:World):Calls Tryz.prog 210 #[.int .i64 x,.int .i64 y] W fun e w'=>e=.returned (.int .i64 (cmpD x y))∧∃ q,w'=W.drewN q:=by
 have HC:=Lib.hid fun W'=>compareI_any x y W'
 generalize cmpD x y=r at *
 go_enter Tryz.func210,Tryz.ntmps210
 go_wp2_with (go_at_call 211;refine (HC.out _).mono ?_;rintro e w' ⟨rfl,rfl⟩)
 go_ret
 exact ⟨rfl,0,rfl⟩
theorem eg_runs1:∀ args w,(callFunc 210 args).run Tryz.prog w=.ok (.enter 210 args) w:=enters_of Tryz.func210 (by kernel_rfl) rfl
theorem cmpReadsD (blk off size:Nat) (w:World):CmpReads Tryz.prog 210 #[] (Value.int .i64) cmpD blk off size w:=fun _ _ _ _ x y=>runs1_any x y _
def srtD (xs:List Int):List Int:=xs.mergeSort fun x y=>decide (y ≤ x)
theorem srtD_perm (xs:List Int):(srtD xs).Perm xs:=List.mergeSort_perm _ _
theorem srtD_len (xs:List Int):(srtD xs).length=xs.length:=(srtD_perm xs).length_eq
theorem srtD_pair (xs:List Int):(srtD xs).Pairwise (fun x y=>y ≤ x):=by
 have h:=List.pairwise_mergeSort (le:=fun x y:Int=>decide (y ≤ x)) (by intro a b c h1 h2;simp at *;omega) (by intro a b;simp;omega) xs
 exact h.imp fun h=>by simpa using h
theorem grownBy_sortI {w:World} {g n:Nat} {os:Array Obj} (d:Array Int):w.grownBy (grow (putRow (Value.int .i64) (Sort.ahead w n) g 0 d) os) (some g):=by
 refine ⟨rfl,rfl,rfl,by simp,fun k hk hne=>?_⟩
 rw [Go.Sort.heap_grow_old _ _ (by simpa using hk)]
 have:g ≠ k:=fun e=>hne (by rw [e])
 simp [Go.Sort.putRow,Go.Sort.mapBlock,Go.Sort.ahead,Array.getElem?_modify,this]
theorem isort_any {w:World} {B cap:Nat} {A:Option Addr} {xs:List Int} (ho:w.ownsRow B 3 1 (.slice A xs.length cap) xs.length (ivals xs)) (hi:∀ x ∈ xs,I63 x) (hl:xs.length < 4611686018427387904) (hB0:B ≤ w.heap.size) :
  Calls Tryz.prog 209 #[.slice A xs.length cap,.func (.func 210) #[] #[]] w fun e w'=>e=.returned (.tuple #[])∧IRow w' w'.heap.size A (srtD xs)∧Below B w w':=by
 by_cases h0:0 < xs.length
 ·obtain ⟨_,⟨h1,h2⟩ | ⟨g,cap',cur,e,hB,_⟩⟩:=id ho
  ·omega
  ·injection e with e1 e2 e3
   subst e1 e3
   have hgl:=(ho.lt g rfl).2
   have hc:∀ j,j < xs.length → w.cell? ⟨g,0 + j,none⟩=some (.int .i64 (xs.getD j 0)):=fun j hj=>by rw [Nat.zero_add,ho.cellAt j (by omega),ivals_at xs j hj]
   have hf:∀ j,j < xs.length → w.frozen? ⟨g,0 + j,none⟩=false:=fun j _=>ho.frozenAt _
   have hH:=Lib.holds_of_ints (Nat.le_refl _) hc hf
   rw [List.take_length] at hH
   have hS:=Any.slices_SortFunc_total sortIs (Value.int .i64) (fun _=>rfl) cmpD swo_cmpD 210 #[] g 0 cap xs.toArray w eg_runs1 (cmpReadsD g 0 xs.toArray.size w).lays hH hgl (by simpa using hl) tot_cmpD
   rw [ge_cmpD] at hS
   refine hS.mono ?_
   rintro e w' ⟨rfl,n,os,rfl⟩
   have hg:=grownBy_sortI (w:=w) (g:=g) (n:=n) (os:=os) (xs.toArray.toList.mergeSort fun x y=>decide (y ≤ x)).toArray
   have e2:xs.toArray.toList=xs:=by simp
   rw [e2] at hg ⊢
   have hsw:=Lib.sorted_world (Value.int .i64) w g 0 n xs.toArray (srtD xs) os hH (by rw [srtD_len];simp)
   refine ⟨rfl,⟨fun x hx=>hi x ((srtD_perm xs).mem_iff.1 hx),fun _=>⟨g,0,rfl,?_,fun i hi2=>?_⟩⟩,(Below.refl B w).grown hg hB0 (fun k hk=>by injection hk with hk;omega)⟩
   ·exact Nat.lt_of_lt_of_le hgl hg.size
   ·have hcs:=Lib.cells_sorted_ints (W:=w) (b:=g) (off:=0) (n:=xs.length) (q:=n) (zs:=xs) (ys:=srtD xs) (os:=os) (Nat.le_refl _) (srtD_len xs) hc i (by rw [List.length_append];omega)
    rw [List.drop_length,List.append_nil] at hcs
    show (grow (putRow (Value.int .i64) (Sort.ahead w n) g 0 (srtD xs).toArray) os).cell? _=_
    rw [hsw]
    exact hcs
 ·obtain rfl:xs=[]:=List.eq_nil_of_length_eq_zero (by omega)
  refine (AnyF.slices_SortFunc_none { sortIs with } A cap _ w).mono ?_
  rintro e w' ⟨rfl,rfl⟩
  have e0:srtD []=[]:=by simp [srtD]
  exact ⟨rfl,by rw [e0];exact IRow.nil _ _ _,Below.refl _ _⟩
end Go.Proofs.YtafpkaifaccehaaGreatDoor
namespace Go.Proofs.YtafpkaifaccehaaGreatDoor
open Go.RowKit
def rsL (us:List Nat):Nat → List Nat × Nat
 | 0=>([],0)
 | k + 1=>if tb us k=true then (if (rsL us k).2=0 then ((rsL us k).1,0) else ((rsL us k).1 ++ [(rsL us k).2],0)) else ((rsL us k).1,(rsL us k).2 + 1)
def runsL (us:List Nat) (k:Nat):List Nat:=if (rsL us k).2=0 then (rsL us k).1 else (rsL us k).1 ++ [(rsL us k).2]
theorem rsL_hit (us:List Nat) (k:Nat) (h:tb us k=true):rsL us (k + 1)=(runsL us k,0):=by
 rw [rsL,if_pos h]
 unfold runsL
 split <;> rfl
theorem rsL_miss (us:List Nat) (k:Nat) (h:tb us k=false):rsL us (k + 1)=((rsL us k).1,(rsL us k).2 + 1):=by rw [rsL,h,if_neg (by simp)]
theorem runsL_of {us:List Nat} {k:Nat} {l:List Nat} (h:rsL us k=(l,0)):runsL us k=l:=by unfold runsL;rw [h];simp
theorem runsL_skip (us:List Nat) (a:Nat):∀ m,(∀ j,a ≤ j → j < a + m → tb us j=true) → runsL us (a + m)=runsL us a∧(0 < m → (rsL us (a + m)).2=0):=by
 intro m
 induction m with
 | zero=>intro _;exact ⟨rfl,fun h=>by omega⟩
 | succ m ih=>
  intro h
  have h1:=rsL_hit us (a + m) (h (a + m) (by omega) (by omega))
  have h2:=(ih fun j g1 g2=>h j g1 (by omega)).1
  rw [h2] at h1
  exact ⟨runsL_of h1,fun _=>by show (rsL us (a + m + 1)).2=0;rw [h1]⟩
theorem rsL_run (us:List Nat) (a:Nat):∀ m,(∀ j,a ≤ j → j < a + m → tb us j=false) → rsL us (a + m)=((rsL us a).1,(rsL us a).2 + m):=by
 intro m
 induction m with
 | zero=>intro _;rfl
 | succ m ih=>
  intro h
  have h1:=rsL_miss us (a + m) (h (a + m) (by omega) (by omega))
  rw [ih fun j g1 g2=>h j g1 (by omega)] at h1
  exact h1
theorem runsL_next (us:List Nat) {a b e:Nat} (hab:a ≤ b) (hbe:b < e) (h0:a=b → (rsL us a).2=0) (h1:∀ j,a ≤ j → j < b → tb us j=true) (h2:∀ j,b ≤ j → j < e → tb us j=false):runsL us e=runsL us a ++ [e - b]:=by
 obtain ⟨m,rfl⟩:∃ m,b=a + m:=⟨b - a,by omega⟩
 obtain ⟨q,rfl⟩:∃ q,e=a + m + q:=⟨e - (a + m),by omega⟩
 have k1:=runsL_skip us a m h1
 have k2:=rsL_run us (a + m) q h2
 have k3:(rsL us (a + m)).2=0:=by
  by_cases hm:m=0
  ·subst hm;exact h0 rfl
  ·exact k1.2 (by omega)
 rw [k3] at k2
 have k4:runsL us (a + m)=(rsL us (a + m)).1:=by unfold runsL;rw [k3];simp
 unfold runsL
 rw [k2]
 rw [if_neg (by show ¬ (0 + q=0);omega)]
 show (rsL us (a + m)).1 ++ [0 + q]=_
 rw [← k4,k1.1]
 congr 2
 omega
structure RsP (us:List Nat) (k:Nat) (l:List Nat) (o:Nat):Prop where
 sum:l.sum + o + countTo us k=k
 pos:∀ x ∈ l,1 ≤ x
 open_:o=zs us k
 le:∀ x ∈ l,x ≤ best us k
 hit:best us k=0 ∨ best us k=o ∨ best us k ∈ l
theorem rsP (us:List Nat) (k:Nat):RsP us k (rsL us k).1 (rsL us k).2:=by
 induction k with
 | zero=>exact ⟨rfl,fun x hx=>by simp [rsL] at hx,rfl,fun x hx=>by simp [rsL] at hx,.inl rfl⟩
 | succ k ih=>
  obtain ⟨h1,h2,h3,h4,h5⟩:=ih
  have hb:best us (k + 1)=max (best us k) (zs us (k + 1)):=rfl
  have hc:countTo us (k + 1)=countTo us k + if tb us k then 1 else 0:=rfl
  have hz:zs us (k + 1)=if tb us k then 0 else zs us k + 1:=rfl
  have hzb:=best_ge us k k (Nat.le_refl _)
  rcases ht:tb us k with _ | _
  ·rw [rsL_miss us k ht]
   rw [ht] at hc hz
   simp only [Bool.false_eq_true,if_false] at hc hz
   refine ⟨?_,h2,?_,fun x hx=>?_,?_⟩
   ·show (rsL us k).1.sum + ((rsL us k).2 + 1) + countTo us (k + 1)=k + 1
    rw [hc];omega
   ·show (rsL us k).2 + 1=_
    rw [hz,h3]
   ·have:=h4 x hx
    omega
   ·show best us (k + 1)=0 ∨ best us (k + 1)=(rsL us k).2 + 1 ∨ best us (k + 1) ∈ (rsL us k).1
    rw [hb,hz,← h3]
    by_cases hm:best us k ≤ (rsL us k).2 + 1
    ·rw [Nat.max_eq_right hm];exact .inr (.inl rfl)
    ·rw [Nat.max_eq_left (by omega)]
     rcases h5 with h5 | h5 | h5
     ·omega
     ·omega
     ·exact .inr (.inr h5)
  ·rw [rsL_hit us k ht]
   rw [ht] at hc hz
   simp only [if_true] at hc hz
   rw [hz] at hb
   rw [Nat.max_eq_left (Nat.zero_le _)] at hb
   unfold runsL
   by_cases ho:(rsL us k).2=0
   ·rw [if_pos ho]
    refine ⟨?_,h2,hz.symm,fun x hx=>?_,?_⟩
    ·show (rsL us k).1.sum + 0 + countTo us (k + 1)=k + 1
     rw [hc];omega
    ·rw [hb];exact h4 x hx
    ·show best us (k + 1)=0 ∨ best us (k + 1)=0 ∨ best us (k + 1) ∈ (rsL us k).1
     rw [hb]
     rcases h5 with h5 | h5 | h5
     ·exact .inl h5
     ·exact .inl (by omega)
     ·exact .inr (.inr h5)
   ·rw [if_neg ho]
    refine ⟨?_,fun x hx=>?_,hz.symm,fun x hx=>?_,?_⟩
    ·show ((rsL us k).1 ++ [(rsL us k).2]).sum + 0 + countTo us (k + 1)=k + 1
     rw [hc,List.sum_append]
     simp
     omega
    ·rcases List.mem_append.1 hx with hx | hx
     ·exact h2 x hx
     ·rw [List.mem_singleton] at hx;omega
    ·rw [hb]
     rcases List.mem_append.1 hx with hx | hx
     ·exact h4 x hx
     ·rw [List.mem_singleton] at hx;omega
    ·show best us (k + 1)=0 ∨ best us (k + 1)=0 ∨ best us (k + 1) ∈ (rsL us k).1 ++ [(rsL us k).2]
     rw [hb]
     rcases h5 with h5 | h5 | h5
     ·exact .inl h5
     ·exact .inr (.inr (by rw [List.mem_append,h5];exact .inr (by simp)))
     ·exact .inr (.inr (List.mem_append.2 (.inl h5)))
structure RunsP (us:List Nat) (k:Nat) (l:List Nat):Prop where
 sum:l.sum + countTo us k=k
 pos:∀ x ∈ l,1 ≤ x
 le:∀ x ∈ l,x ≤ best us k
 hit:best us k=0 ∨ best us k ∈ l
theorem runsP (us:List Nat) (k:Nat):RunsP us k (runsL us k):=by
 obtain ⟨h1,h2,h3,h4,h5⟩:=rsP us k
 have hzb:=best_ge us k k (Nat.le_refl _)
 unfold runsL
 by_cases ho:(rsL us k).2=0
 ·rw [if_pos ho]
  refine ⟨by omega,h2,h4,?_⟩
  rcases h5 with h5 | h5 | h5
  ·exact .inl h5
  ·exact .inl (by omega)
  ·exact .inr h5
 ·rw [if_neg ho]
  refine ⟨by rw [List.sum_append];simp;omega,fun x hx=>?_,fun x hx=>?_,?_⟩
  ·rcases List.mem_append.1 hx with hx | hx
   ·exact h2 x hx
   ·rw [List.mem_singleton] at hx;omega
  ·rcases List.mem_append.1 hx with hx | hx
   ·exact h4 x hx
   ·rw [List.mem_singleton] at hx;omega
  ·rcases h5 with h5 | h5 | h5
   ·exact .inl h5
   ·exact .inr (by rw [List.mem_append,h5];exact .inr (by simp))
   ·exact .inr (List.mem_append.2 (.inl h5))
theorem runsL_len (us:List Nat) (k:Nat):(runsL us k).length ≤ k:=by
 obtain ⟨h1,h2,_,_⟩:=runsP us k
 have:∀ l:List Nat,(∀ x ∈ l,1 ≤ x) → l.length ≤ l.sum:=by
  intro l
  induction l with
  | nil=>intro _;exact Nat.le_refl _
  | cons a l ih=>
   intro h
   have h3:=ih fun x hx=>h x (List.mem_cons_of_mem _ hx)
   have h4:=h a (List.mem_cons_self)
   simp only [List.length_cons,List.sum_cons]
   omega
 have:=this _ h2
 omega
def rInts (us:List Nat) (k:Nat):List Int:=(runsL us k).map fun (x:Nat)=>(x:Int)
theorem rInts_len (us:List Nat) (k:Nat):(rInts us k).length=(runsL us k).length:=by simp [rInts]
theorem rInts_in (us:List Nat) (k:Nat) (hk:k ≤ 4096):∀ x ∈ rInts us k,I63 x:=by
 intro x hx
 obtain ⟨q,hq,rfl⟩:=List.mem_map.1 hx
 have h1:=(runsP us k).le q hq
 have h2:=best_le us k
 unfold I63
 omega
theorem ivals_snoc (l:List Int) (x:Int):ivals (l ++ [x])=ivals l ++ ivals [x]:=by simp [ivals]
section
variable {w:World} {v:Hv} {O:Option Addr} {s:Sc} (co:Nat)
set_option maxHeartbeats 2000000 in
theorem frunEnd_any (m:SM w v O s) (hk:OkS s) (a:Nat) (ha:(a:Int) ≤ s.n) :
  Calls Tryz.prog 208 #[scV v O co s,.int .i64 (a:Nat)] w fun e w'=>(∃ i,e=.returned (.int .i64 i)∧NextP s.h.us true a s.n i)∧Below w.heap.size w w':=by
 have HFI:=Lib.hid fun (w:World) hr=>first_in (n:=s.h.n) (A:=v.U) (ws:=s.h.us) (w:=w) (cap:=v.cu) (a:=(a:Int)) (v:=true) hr hk.h.framed.pages (by omega) (by rw [← hk.n];exact ha)
 have hn:=Lib.hid hk.n
 unfold Told at HFI
 clear hk
 unfold scV
 go_enter Tryz.func208,Tryz.ntmps208
 go_wp2_with fail
 go_at_call 206
 refine (HFI.out _ (m.h.u.later bX)).mono ?_
 rintro e w1 ⟨⟨i,why,rfl,hp⟩,hb_w1⟩
 obtain ⟨hc_w1,hf_w1⟩:=bcell hb_w1;have hz_w1_w_0:w.heap.size < w1.heap.size:=lY hb_w1.size;have hz_w1_w_1:w.heap.size + 1 < w1.heap.size:=lY hb_w1.size;have hs_w1:=hb_w1.size;(try simp only [zZ] at hs_w1)
 rcases hp with ⟨rfl,p1,p2,p3,p4⟩ | ⟨rfl,rfl,p4⟩
 ·have HP:=Lib.hid p4
  clear p4
  go_wp2
  go_ret
  exact ⟨⟨i,rfl,p1,by have:=hn.out;omega,HP.out,fun _=>p3⟩,bX⟩
 ·have HP:=Lib.hid p4
  clear p4
  go_wp2
  go_ret
  exact ⟨⟨s.h.n,rfl,by have:=hn.out;omega,by have:=hn.out;omega,HP.out,fun hh=>absurd hh (by have:=hn.out;omega)⟩,bX⟩
set_option maxHeartbeats 8000000 in
theorem fruns_any (m:SM w v O s) (hk:OkS s) :
  Calls Tryz.prog 143 #[scV v O co s] w fun e w'=>∃ A c,e=.returned (.slice A (srtD (rInts s.h.us s.n.toNat)).length c)∧IRow w' w'.heap.size A (srtD (rInts s.h.us s.n.toNat))∧Below w.heap.size w w':=by
 obtain ⟨i0,hi,hz0,hz1,hz2⟩:=info_parts info_int
 obtain ⟨n0,n1,_⟩:=hk.nn
 obtain ⟨N,hN⟩:∃ N:Nat,s.n=(N:Int):=⟨s.n.toNat,by omega⟩
 have HRE:=Lib.hid fun (w:World) m a ha=>frunEnd_any (w:=w) (v:=v) (O:=O) (s:=s) co m hk a ha
 have HFI:=Lib.hid fun (w:World) (a:Int) hr h0 h1=>first_in (n:=s.h.n) (A:=v.U) (ws:=s.h.us) (w:=w) (cap:=v.cu) (a:=a) (v:=false) hr hk.h.framed.pages h0 h1
 unfold Told at HFI
 have hhn:=hk.n.symm.trans hN
 have hN2:s.n.toNat=N:=by omega
 have HSO:=Lib.hid fun (w:World) (B n cap:Nat) (A:Option Addr) (xs:List Int) (hn:xs.length=n) (ho:w.ownsRow B 3 1 (.slice A n cap) n (ivals xs)) (hi:∀ x ∈ xs,I63 x) (hl:xs.length < 4611686018427387904) (hB:B ≤ w.heap.size)=>(show Calls Tryz.prog 209 #[.slice A n cap,.func (.func 210) #[] #[]] w (fun e w'=>e=.returned (.tuple #[])∧IRow w' w'.heap.size A (srtD xs)∧Below B w w') by subst hn;exact isort_any ho hi hl hB)
 rw [hN2]
 rw [hhn] at HFI
 rw [hN] at HRE
 clear hk
 have HM:=Lib.hid m
 unfold scV at HRE ⊢
 rw [hhn] at HRE ⊢
 rw [hN] at HRE ⊢
 obtain ⟨us,hus⟩:∃ us,Hid (s.h.us=us):=⟨_,Lib.hid rfl⟩
 have hmu:=Lib.hid m.h.u
 rw [hus.out] at HRE HFI hmu ⊢
 have N4:N ≤ 4096:=by omega
 clear n0 n1 hhn hN hN2 m
 have t0:=(E8.new w (.slice v.A s.h.ws.length v.ca) (.int .i64 (N:Nat)) (.slice v.U us.length v.cu) (.slice v.V s.h.l.length v.cv) (.int .i64 (N:Nat)) (.slice O s.os.length co) (.int .u64 (s.fa:Nat)) (.int .u64 (s.go:Nat)) 192).later ((Below.refl _ _).alloc (Nat.le_refl _) (.cells #[.int .i64 (N:Nat),.slice v.U us.length v.cu] 26))
 have d0:=Two.new1 w (.cells #[.slice v.A s.h.ws.length v.ca,.int .i64 (N:Nat),.slice v.U us.length v.cu,.slice v.V s.h.l.length v.cv,.int .i64 (N:Nat),.slice O s.os.length co,.int .u64 (s.fa:Nat),.int .u64 (s.go:Nat)] 192) (.int .i64 (N:Nat)) (.slice v.U us.length v.cu) 26
 have b0:Below w.heap.size w ((w.alloc (.cells #[.slice v.A s.h.ws.length v.ca,.int .i64 (N:Nat),.slice v.U us.length v.cu,.slice v.V s.h.l.length v.cv,.int .i64 (N:Nat),.slice O s.os.length co,.int .u64 (s.fa:Nat),.int .u64 (s.go:Nat)] 192)).alloc (.cells #[.int .i64 (N:Nat),.slice v.U us.length v.cu] 26)):=bX
 have s0:((w.alloc (.cells #[.slice v.A s.h.ws.length v.ca,.int .i64 (N:Nat),.slice v.U us.length v.cu,.slice v.V s.h.l.length v.cv,.int .i64 (N:Nat),.slice O s.os.length co,.int .u64 (s.fa:Nat),.int .u64 (s.go:Nat)] 192)).alloc (.cells #[.int .i64 (N:Nat),.slice v.U us.length v.cu] 26)).heap.size=w.heap.size + 2:=by simp only [zA]
 go_enter Tryz.func143,Tryz.ntmps143
 go_wp2_with fail
 generalize (w.alloc (.cells #[.slice v.A s.h.ws.length v.ca,.int .i64 (N:Nat),.slice v.U us.length v.cu,.slice v.V s.h.l.length v.cv,.int .i64 (N:Nat),.slice O s.os.length co,.int .u64 (s.fa:Nat),.int .u64 (s.go:Nat)] 192)).alloc (.cells #[.int .i64 (N:Nat),.slice v.U us.length v.cu] 26)=W0 at *
 go_at_call 206
 refine (HFI.out _ _ (hmu.out.later b0) (by omega) (by omega)).mono ?_
 rintro e w2 ⟨⟨j0,y0,rfl,hF0⟩,hb_w2⟩
 have HF0:=Lib.hid hF0
 clear hF0
 go_wp2_with fail
 go_loopw [4,5,6,7] (fun lv ev iv yv wr=>∃ (ed n:Nat) (i y:Int) (Al:Option Addr) (cl:Nat),lv=.slice Al n cl∧ev=.int .i64 (ed:Nat)∧iv=.int .i64 i∧yv=.int .i64 y∧Hid (FirstP us false (ed:Int) (N:Nat) i y)∧ed ≤ N∧Hid (ed=0 ∨ ed=N ∨ tb us ed=true)∧Hid ((rInts us ed).length=n)∧wr.ownsRow W0.heap.size 3 1 (.slice Al n cl) n (ivals (rInts us ed))∧Below W0.heap.size W0 wr) (fun _ _ iv yv _=>if intOf yv=0 then ((N:Int) - intOf iv).toNat + 1 else 0)
 case atStart=>exact ⟨0,0,j0,y0,none,0,rfl,rfl,rfl,rfl,HF0,Nat.zero_le _,Lib.hid (.inl rfl),Lib.hid rfl,World.ownsRow_nil _ _ _ _,hb_w2⟩
 case round=>
  clear hb_w2
  obtain ⟨ed,n,i,y,Al,cl,rfl,rfl,rfl,rfl,hF,hed,hB,hL,hO,hb⟩:=hrel
  have hsr:=hb.size
  have t1:=t0.later hb
  have d1:=d0.later hb
  have bw:=b0.trans (hb.mono b0.size)
  rcases hF.out with ⟨rfl,p1,p2,p3,p4⟩ | ⟨rfl,rfl,p4⟩
  ·obtain ⟨j,rfl⟩:∃ j:Nat,i=(j:Int):=⟨i.toNat,by omega⟩
   simp only [Int.toNat_natCast] at p3
   have HT1:Hid (∀ k,ed ≤ k → k < j → tb us k=true):=Lib.hid fun k h1 h2=>by
    have:=p4 k (by omega) (by omega)
    simpa using this
   have HE0:Hid (ed=j → (rsL us ed).2=0):=Lib.hid fun e=>by
    rcases hB.out with h | h | h
    ·rw [h];rfl
    ·omega
    ·rw [e,p3] at h;cases h
   have P3:=Lib.hid p3
   clear p4 hF hB p3
   obtain ⟨x0,x1,x2,x3,x4,x5,x6,x7,xf⟩:=id t1
   obtain ⟨z0,z1,zf⟩:=id d1
   go_wp2_with fail
   go_at_call 208
   refine (HRE.out _ (HM.out.later bw) j (by omega)).mono ?_
   rintro e w3 ⟨⟨i2,rfl,q1,q2,q3,q4⟩,hb_w3⟩
   obtain ⟨e2,rfl⟩:∃ e2:Nat,i2=(e2:Int):=⟨i2.toNat,by omega⟩
   simp only [Int.toNat_natCast] at q4
   have hje:j < e2:=by
    by_cases h:e2=j
    ·subst h
     have:=q4 p2
     rw [P3.out] at this
     cases this
    ·omega
   have HT2:Hid (∀ k,j ≤ k → k < e2 → tb us k=false):=Lib.hid fun k h1 h2=>by
    have:=q3 k (by omega) (by omega)
    simpa using this
   have HRL:Hid (rInts us e2=rInts us ed ++ [((e2 - j:Nat):Int)]):=Lib.hid (by
    unfold rInts
    rw [runsL_next us (by omega) hje HE0.out HT1.out HT2.out,List.map_append]
    rfl)
   have HB2:Hid (e2=0 ∨ e2=N ∨ tb us e2=true):=Lib.hid (by
    by_cases h:e2 < N
    ·exact .inr (.inr (q4 (by omega)))
    ·exact .inr (.inl (by omega)))
   have he2N:e2 ≤ N:=by omega
   have hOL:=hO.lt
   have hO3:=owns_laterN hO hb_w3
   have hb3:=hb.trans (hb_w3.mono hsr)
   have s3:=hb_w3.size
   have d3:=d1.later hb_w3
   have sub:IntKind.i64.wrap ((e2:Int) - (j:Int))=(((e2 - j:Nat):Nat):Int):=by rw [IntWalk.i64_in _ (by omega)];omega
   obtain ⟨x,hx⟩:∃ x:Nat,e2 - j=x:=⟨_,rfl⟩
   rw [hx] at sub HRL
   have hxl:x ≤ 4096:=by omega
   have hL4:n ≤ 4096:=by rw [← hL.out,rInts_len];have:=runsL_len us ed;omega
   have HROW:=Lib.hid fun W' hb=>(owns_laterN hO3 hb:World.ownsRow W' W0.heap.size 3 1 (.slice Al n cl) n (ivals (rInts us ed)))
   have HBL:Hid (∀ (ob:Obj) (w9:World),(w3.alloc ob).grownBy w9 (Value.slice Al n cl).ownBlock → Below W0.heap.size W0 w9):=Lib.hid fun ob w9 h1=>Below.grown (w:=w3.alloc ob) (hb3.alloc (by omega) ob) h1 (by rw [World.size_alloc];omega) (fun q hq=>(hOL q (by first | exact hq | exact hq.symm)).1)
   clear q1 q2 q3 q4 HT1 HT2 HE0 P3 hO t1 d1 hb bw hOL hO3 hb_w3 hx z0 z1 zf d3 x0 x1 x2 x3 x4 x5 x6 x7 xf
   have hF:=HM
   go_wp2_with (at_builtin;refine wpList_append_lies _ ?_ (.tmp 29) (.tmp 33) 91 ?_ W0.heap.size 3 i0 _ 1 8 Tryz.underlying91 hi hz0 hz1 hz2 rfl (by omega) (.slice Al n cl) n (ivals (rInts us ed)) ?_ (HROW.out _ bX) ⟨w3.heap.size,0,none⟩ 1 1 (ivals [(x:Int)]) ?_ rfl ?_ (ivals_one _) (by omega) (by unfold maxLen;omega) (by omega) (by simp only [zA];omega) _ rfl ?_;rfl;rfl;rfl;rfl;(intro k u hj;rw [add_form];have hj0:k=0:=(by have:=(List.getElem?_eq_some_iff.1 hj).1;simpa [ivals] using this);subst hj0;have hu:u=.int .i64 (x:Nat):=(by simpa [ivals] using hj.symm);subst hu;simp [go_sem]);intro g9 cap9 w9 hown9 hg9 hat9 hlt9;have hb9:=HBL.out _ _ hg9;have hO9:w9.ownsRow W0.heap.size 3 1 (.slice (some ⟨g9,0,none⟩) (n + 1) cap9) (n + 1) (ivals (rInts us e2)):=(by rw [HRL.out,ivals_snoc];exact hown9);have HL9:Hid ((rInts us e2).length=n + 1):=Lib.hid (by rw [HRL.out,List.length_append,hL.out];rfl);have d9:=d0.later hb9;have t9:=t0.later hb9;have s9:=hb9.size;have bw9:=b0.trans (hb9.mono b0.size);clear HBL HROW hg9 hat9 hown9;obtain ⟨z0,z1,zf⟩:=id d9)
   go_at_call 206
   refine (HFI.out _ _ (hmu.out.later bw9) (by omega) (by omega)).mono ?_
   rintro e w5 ⟨⟨i4,y4,rfl,hF4⟩,hb_w5⟩
   have HF4:=Lib.hid hF4
   have hO5:=owns_laterN hO9 hb_w5
   have hb5:=hb9.trans (hb_w5.mono s9)
   have HMS:Hid (∀ m:Nat,m=(if y4=0 then ((N:Int) - i4).toNat + 1 else 0) → m < ((N:Int) - (j:Int)).toNat + 1):=Lib.hid fun m hm=>by
    rcases hF4 with ⟨q0,q1,q2,_⟩ | ⟨q0,_⟩
    ·rw [if_pos q0] at hm;omega
    ·rw [if_neg (by omega)] at hm;omega
   clear hF4 hO9 hb9 d9 t9 hb_w5 z0 z1 zf
   go_wp2
   go_roundw
   case rel=>exact ⟨e2,n + 1,i4,y4,some ⟨g9,0,none⟩,cap9,rfl,rfl,rfl,rfl,HF4,he2N,HB2,HL9,hO5,hb5⟩
   case measure=>exact HMS.out _ rfl
  ·have HEQ:Hid (rInts us N=rInts us ed):=Lib.hid (by
    have h:=(runsL_skip us ed (N - ed) (fun k h1 h2=>by
     have:=p4 k (by omega) (by omega)
     simpa using this)).1
    rw [show ed + (N - ed)=N by omega] at h
    unfold rInts
    rw [h])
   have hL4:n ≤ 4096:=by rw [← hL.out,rInts_len];have:=runsL_len us ed;omega
   clear p4 hF hB t1 d1
   go_wp2_with fail
   go_at_call 209
   refine (HSO.out _ _ _ _ _ _ hL.out hO (rInts_in us ed (by omega)) (by rw [hL.out];omega) hsr).mono ?_
   rintro e w6 ⟨rfl,hI,hb_w6⟩
   have bw6:=b0.trans ((hb.trans hb_w6).mono b0.size)
   have HLN:Hid ((srtD (rInts us N)).length=n):=Lib.hid (by rw [srtD_len,HEQ.out];exact hL.out)
   have HI2:Hid (IRow w6 w6.heap.size Al (srtD (rInts us N))):=Lib.hid (by rw [HEQ.out];exact hI)
   clear hb hb_w6 hI hO
   go_wp2
   go_ret
   exact ⟨Al,cl,by rw [HLN.out];rfl,HI2.out,bw6⟩
def RunE (s:Sc) (t:List Int) (y:Int):Prop:=(¬ OkS s∧t=[]∧y=2) ∨ (OkS s∧t=srtD (rInts s.h.us s.n.toNat)∧y=0)
theorem RunE.ex (s:Sc):∃ t y,RunE s t y:=by
 by_cases hk:OkS s
 ·exact ⟨_,_,.inr ⟨hk,rfl,rfl⟩⟩
 ·exact ⟨_,_,.inl ⟨hk,rfl,rfl⟩⟩
set_option maxHeartbeats 2000000 in
theorem frunsX_any (hz:Sizes w) (m:SM w v O s) (hs:Short s.h) (t:List Int) (y:Int) (hE:RunE s t y) :
  Calls Tryz.prog 61 #[scV v O co s] w fun e w'=>∃ A c,e=.returned (.tuple #[.slice A t.length c,.int .i64 y])∧IRow w' w'.heap.size A t∧Below w.heap.size w w':=by
 rcases hE with ⟨hk,rfl,rfl⟩ | ⟨hk,he,rfl⟩
 ·have HV:=Lib.hid fun (w:World) z m=>fview_bad (w:=w) (v:=v) (O:=O) (s:=s) co z m hs hk
  clear hk hs
  unfold scV at HV ⊢
  unfold hv0 sc0 hp0 at HV
  simp only at HV
  go_enter Tryz.func61,Tryz.ntmps61
  go_wp2_with fail
  go_at_call 134
  refine (HV.out _ (hz.later bX) (m.later bX)).mono ?_
  rintro e w1 ⟨rfl,hb_w1⟩
  obtain ⟨hc_w1,hf_w1⟩:=bcell hb_w1;have hz_w1_w_0:w.heap.size < w1.heap.size:=lY hb_w1.size;have hs_w1:=hb_w1.size;(try simp only [zZ] at hs_w1)
  go_wp2
  go_ret2
  exact ⟨none,0,rfl,IRow.nil _ _ _,bX⟩
 ·have HV:=Lib.hid fun (w:World) z m=>fview_ok (w:=w) (v:=v) (O:=O) (s:=s) co z m hk
  have HR:=Lib.hid fun (w:World) m=>fruns_any (w:=w) (v:=v) (O:=O) (s:=s) co m hk
  rw [← he] at HR
  clear hk hs he
  unfold scV at HV HR ⊢
  go_enter Tryz.func61,Tryz.ntmps61
  go_wp2_with fail
  go_at_call 134
  refine (HV.out _ (hz.later bX) (m.later bX)).mono ?_
  rintro e w1 ⟨rfl,hb_w1⟩
  obtain ⟨hc_w1,hf_w1⟩:=bcell hb_w1;have hz_w1_w_0:w.heap.size < w1.heap.size:=lY hb_w1.size;have hs_w1:=hb_w1.size;(try simp only [zZ] at hs_w1)
  have b1:Below w.heap.size w w1:=bX
  have t1:=E8.new w1 (.slice v.A s.h.ws.length v.ca) (.int .i64 s.h.n) (.slice v.U s.h.us.length v.cu) (.slice v.V s.h.l.length v.cv) (.int .i64 s.n) (.slice O s.os.length co) (.int .u64 (s.fa:Nat)) (.int .u64 (s.go:Nat)) 192
  clear hc_w1 hf_w1
  obtain ⟨x0,x1,x2,x3,x4,x5,x6,x7,xf⟩:=id t1
  go_wp2_with fail
  go_at_call 143
  refine (HR.out _ ((m.later b1).later bX)).mono ?_
  rintro e w2 ⟨A,c,rfl,hI,hb_w2⟩
  have b2:Below w.heap.size w w2:=bX
  go_wp2
  go_ret2
  exact ⟨A,c,rfl,hI,b2⟩
end
theorem desc_unique:∀ {a b:List Int},a.Perm b → a.Pairwise (fun x y=>y ≤ x) → b.Pairwise (fun x y=>y ≤ x) → a=b
 | [],b,p,_,_=>by
  have:=p.length_eq
  cases b with
  | nil=>rfl
  | cons y b=>simp at this
 | x :: a,[],p,_,_=>by
  have:=p.length_eq
  simp at this
 | x :: a,y :: b,p,ha,hb=>by
  obtain ⟨h1,h2⟩:=List.pairwise_cons.1 ha
  obtain ⟨h3,h4⟩:=List.pairwise_cons.1 hb
  have hxy:x=y:=by
   have i1:x ∈ y :: b:=p.subset (List.mem_cons_self ..)
   have i2:y ∈ x :: a:=p.symm.subset (List.mem_cons_self ..)
   rcases List.mem_cons.1 i1 with e | e
   ·exact e
   ·rcases List.mem_cons.1 i2 with e2 | e2
    ·exact e2.symm
    ·have:=h3 x e
     have:=h1 y e2
     omega
  subst hxy
  rw [desc_unique (List.perm_cons x |>.1 p) h2 h4]
theorem insD_eq {l l0:List Int} {x:Int} {a:Nat} (hl:l=srtD l0) (ha:a ≤ l.length) (h1:∀ j (hj:j < l.length),j < a → x ≤ l[j]) (h2:∀ (h:a < l.length),l[a] < x) :
  l.take a ++ x :: l.drop a=srtD (l0 ++ [x]):=by
 have hp:=srtD_pair l0
 rw [← hl] at hp
 refine desc_unique ?_ ?_ (srtD_pair _)
 ·refine (List.perm_middle).trans ?_
  rw [List.take_append_drop]
  refine ((List.Perm.cons x (hl ▸ srtD_perm l0)).trans ?_).trans (srtD_perm _).symm
  exact (List.perm_append_singleton x l0).symm
 ·have hg:=List.pairwise_iff_getElem.1 hp
  refine List.pairwise_append.2 ⟨hp.sublist (List.take_sublist _ _),List.pairwise_cons.2 ⟨fun y hy=>?_,hp.sublist (List.drop_sublist _ _)⟩,fun y hy z hz=>?_⟩
  ·obtain ⟨j,hj,rfl⟩:=List.mem_iff_getElem.1 hy
   rw [List.getElem_drop]
   rw [List.length_drop] at hj
   have i1:=h2 (by omega)
   by_cases e:j=0
   ·subst e
    simp only [Nat.add_zero]
    omega
   ·have:=hg a (a + j) (by omega) (by omega) (by omega)
    omega
  ·obtain ⟨j,hj,rfl⟩:=List.mem_iff_getElem.1 hy
   rw [List.length_take] at hj
   rw [List.getElem_take]
   rcases List.mem_cons.1 hz with rfl | hz
   ·exact h1 j (by omega) (by omega)
   ·obtain ⟨q,hq,rfl⟩:=List.mem_iff_getElem.1 hz
    rw [List.length_drop] at hq
    rw [List.getElem_drop]
    exact hg j (a + q) (by omega) (by omega) (by omega)
end Go.Proofs.YtafpkaifaccehaaGreatDoor
