/- Parts of the proof. -/
import Derived.Test.YtafpkaifaccehaaGreatDoorScavP11
import Derived.Laws.NewBlocks
set_option maxRecDepth 100000
set_option linter.unusedVariables false
set_option linter.unusedSimpArgs false
namespace Go.Proofs.YtafpkaifaccehaaGreatDoor
open Go.RowKit Go.Shelf
attribute [local go_sem] Oper.semAt_some
def regOfF (n:Nat):Code → Option (Array Oper × Bool)
 | .region id ops d=>if id=n then some (ops,d) else none
 | .seq a b=>match regOfF n a with
  | some r=>some r
  | none=>regOfF n b
 | .cond _ a b=>match regOfF n a with
  | some r=>some r
  | none=>regOfF n b
 | .block _ b=>regOfF n b
 | .loop b=>regOfF n b
 | .scope b=>regOfF n b
 | .rangeFunc _ _ a b=>match regOfF n a with
  | some r=>some r
  | none=>regOfF n b
 | _=>none
def intz (n:Nat):List Value:=List.replicate n (.int .i64 0)
theorem run_make_intz (n:Nat) (hn:n ≤ 16384) (W:World) :
  (Instr.makeSlice 91 (.int .i64 (n:Int)) (.int .i64 (n:Int))).run Tryz.prog W=.ok (.slice (some ⟨W.heap.size,0,none⟩) n n) (W.alloc (.cells (intz n).toArray 3)):=by
 obtain ⟨i0,hi,hz0,hz1,hz2⟩:=info_parts info_int
 have h:=run_make (P:=Tryz.prog) W 91 3 i0 _ Tryz.underlying91 hi hz0 .i64 .i64 (n:Int) (n:Int) (by omega) (by omega) (by rw [hz2];omega) (by omega)
 rw [h,hz1,Nat.mul_one,Int.toNat_natCast]
 have e:madeCells #[Value.int .i64 0] n=(intz n).toArray:=by
  apply Array.ext'
  rw [toList_madeCells_one]
  simp [intz]
 show _=Result.ok _ (World.alloc W (.cells (intz n).toArray 3))
 rw [← e]
 rfl
theorem wp_append6 {w:World} {o:Oper} {a:Act} {K:Act → World → Prop} {Q:Exit → Act → World → Prop} (s x:Operand)
  (ho:o.op=.call { callee:=.builtin .append,args:=#[s,x],argTypes:=#[126,126] })
  (base:Nat) (A:Option Addr) (cap n:Nat) (xs:List Value) (hs:a.eval s=.slice A n cap) (hown:w.ownsRow base 161 6 (.slice A n cap) n xs)
  (b off m c:Nat) (news:List Value) (hx:a.eval x=.slice (some ⟨b,off,none⟩) m c) (hl:news.length=m * 6) (hm:0 < m) (hc:∀ j u,news[j]?=some u → w.cell? ⟨b,off + j,none⟩=some u) (h1:∀ u ∈ news,u.oneCell'=true)
  (hsm:n + m ≤ 100000) (hbase:base ≤ w.heap.size)
  (h:∀ g' cap' w',w'.ownsRow base 161 6 (.slice (some ⟨g',0,none⟩) (n + m) cap') (n + m) (xs ++ news) → w.grownBy w' (A.map fun a=>a.block) → Below base w w' → (A=some ⟨g',0,none⟩ ∨ g'=w.heap.size) → K (a.put o.dst (.slice (some ⟨g',0,none⟩) (n + m) cap')) w') :
  Oper.wp Tryz.prog o a w K Q:=by
 obtain ⟨i0,hi,hz0,hz1,hz2⟩:=info_parts info_ob
 have hob:(Value.slice A n cap).ownBlock=A.map fun a=>a.block:=by cases A <;> rfl
 obtain ⟨g,cap',w',h2,h3,h4,h5,_⟩:=run_append_lies (P:=Tryz.prog) w 126 o.type base 161 i0 _ 6 48 Tryz.underlying126 hi hz0 hz1 hz2 rfl (by omega) (.slice A n cap) n xs hown ⟨b,off,none⟩ m c news hl (fun j u hj=>by rw [add_form];exact hc j u hj) h1 hm (by unfold maxLen;omega) (by omega) hbase _ rfl
 unfold Oper.wp
 simp [execOp,ho,resolve,invoke,builtin,hs,hx,h2,Result.andThen]
 refine h g cap' w' h3 (by rw [← hob];exact h4) ((Below.refl _ _).grown h4 hbase (fun k hk=>(hown.lt k hk).1)) ?_
 rcases h5 with h5 | h5
 ·left
  obtain ⟨_,⟨e1,_⟩ | ⟨g',_,_,e1,_⟩⟩:=hown
  ·injection e1 with e1
   subst e1
   cases h5
  ·injection e1 with e1
   subst e1
   injection h5 with h5
   have h5':g'=g:=h5
   rw [h5']
 ·exact .inr h5
theorem step_append6 {w:World} {ops:Array Oper} {d:Option Tmp} {ty:TypeId} {ps:String} {af:Array Edge} {a:Act} {K:Act → World → Prop} {Q:Exit → Act → World → Prop} {E:Prop} (s x:Operand)
  (base:Nat) (A:Option Addr) (cap n:Nat) (xs:List Value) (hs:a.eval s=.slice A n cap) (hown:w.ownsRow base 161 6 (.slice A n cap) n xs)
  (b off m c:Nat) (news:List Value) (hx:a.eval x=.slice (some ⟨b,off,none⟩) m c) (hl:news.length=m * 6) (hm:0 < m) (hc:∀ j u,news[j]?=some u → w.cell? ⟨b,off + j,none⟩=some u) (h1:∀ u ∈ news,u.oneCell'=true)
  (hsm:n + m ≤ 100000) (hbase:base ≤ w.heap.size)
  (h:∀ g' cap' w',w'.ownsRow base 161 6 (.slice (some ⟨g',0,none⟩) (n + m) cap') (n + m) (xs ++ news) → w.grownBy w' (A.map fun a=>a.block) → Below base w w' → (A=some ⟨g',0,none⟩ ∨ g'=w.heap.size) → K (a.put d (.slice (some ⟨g',0,none⟩) (n + m) cap')) w') :
  if Region.wanted { dst:=d,op:=.call { callee:=.builtin .append,args:=#[s,x],argTypes:=#[126,126] },type:=ty,pos:=ps,after:=af,guard:=none } (yielded ops a.tmps)=true then Oper.wp Tryz.prog { dst:=d,op:=.call { callee:=.builtin .append,args:=#[s,x],argTypes:=#[126,126] },type:=ty,pos:=ps,after:=af,guard:=none } a w K Q else E:=by
 rw [if_pos (by simp [Region.wanted])]
 exact wp_append6 s x rfl base A cap n xs hs hown b off m c news hx hl hm hc h1 hsm hbase h
set_option maxRecDepth 100000 in
set_option maxHeartbeats 4000000 in
theorem collectR1 (wz:World) (P0 g L ca:Nat) {A:Option Addr} (x0 x2 x3 x4 x5 x6 x7 x8 x9 x10 x11 x12 x13 x14 x15 x16 x17 x18 x19 x20 x21 x22 x23 x24 x25 x26 x27 x28 x29 x30 x31 x32 x33 x34 x35 x36 x37 x38 x39 x40 x41 x42:Value) (ops:Array Oper) (dr:Bool) (hreg:(Tryz.f184.body.bind (regOfF 1))=some (ops,dr)) (hP:wz.cell? ⟨P0,0,none⟩=some (.pointer (some ⟨g,0,none⟩))) (h0:wz.cell? ⟨g,0,none⟩=some (.slice A L ca)) (h8:wz.cell? ⟨g,8,none⟩=some (.slice none 0 0)) (f8:wz.frozen? ⟨g,8,none⟩=false) (hL:L ≤ 16384) :
  RegAny ops (OnlyN fun a' w'=>w'=((wz.setCell ⟨g,8,none⟩ (.slice (some ⟨wz.heap.size,0,none⟩) L L)).alloc (.cells (intz L).toArray 3)).drew∧∃ (z3 z4 z5 z6 z7 z8 z9 z10 z11 z12 z13 z14:Value),a'={ tmps:=#[x0,.pointer (some ⟨P0,0,none⟩),x2,z3,z4,z5,z6,z7,z8,z9,z10,z11,z12,z13,z14,x15,x16,x17,x18,x19,x20,x21,x22,x23,x24,x25,x26,x27,x28,x29,x30,x31,x32,x33,x34,x35,x36,x37,x38,x39,x40,x41,x42],defers:=[] }) { tmps:=#[x0,.pointer (some ⟨P0,0,none⟩),x2,x3,x4,x5,x6,x7,x8,x9,x10,x11,x12,x13,x14,x15,x16,x17,x18,x19,x20,x21,x22,x23,x24,x25,x26,x27,x28,x29,x30,x31,x32,x33,x34,x35,x36,x37,x38,x39,x40,x41,x42],defers:=[] } wz:=by
 have hreg0:(Tryz.f184.body.bind (regOfF 1))=some (_,_):=rfl
 rw [hreg0] at hreg
 injection hreg with hreg
 injection hreg with hreg1 hreg2
 subst hreg1 hreg2
 clear hreg0
 have hgl:=World.block_lt_of_cell? wz _ h0
 have hPl:=World.block_lt_of_cell? wz _ hP
 simp only at hgl hPl
 have hmk:=fun W=>run_make_intz L hL W
 refine regAny_held (S:=(fun X:World=>X.cell? ⟨P0,0,none⟩=some (.pointer (some ⟨g,0,none⟩))∧X.cell? ⟨g,0,none⟩=some (.slice A L ca))) (by kernel_rfl) ?_ (fun hHeld=>?_)
 ·(try dsimp only);refine ⟨?_,?_⟩ <;> first | assumption | (simp [go_sem];done) | exact (World.cell?_alloc_lt _ _ ⟨_,_,_⟩ lX).trans (by assumption) | exact (World.frozen?_alloc_past _ _ _ lX).trans (by assumption)
 refine tY 0 ?_
 try simp only [Act.put,qZ]
 refine tY 1 ?_
 try simp only [Act.put,qZ]
 refine tY 2 ?_
 try simp only [Act.put,qZ]
 refine tY 3 ?_
 try simp only [Act.put,qZ]
 refine tY 4 ?_
 try simp only [Act.put,qZ]
 refine tY 5 ?_
 try simp only [Act.put,qZ]
 refine tY 6 ?_
 try simp only [Act.put,qZ]
 refine tY 7 ?_
 try simp only [Act.put,qZ]
 refine tY 8 ?_
 try simp only [Act.put,qZ]
 refine tR 9 fun K hK=>?_
 try simp only [qZ]
 go_simp
 refine hK.out _ _ ?_ (fun hHeld=>?_)
 ·(try dsimp only);refine ⟨?_,?_⟩ <;> first | assumption | (simp [go_sem];done) | exact (World.cell?_alloc_lt _ _ ⟨_,_,_⟩ lX).trans (by assumption) | exact (World.frozen?_alloc_past _ _ _ lX).trans (by assumption)
 clear hK K
 try simp only [Act.put,qZ]
 refine tY 10 ?_
 try simp only [Act.put,qZ]
 refine tY 11 ?_
 try simp only [Act.put,qZ]
 refine tR 12 fun K hK=>?_
 try simp only [qZ]
 go_simp
 refine hK.out _ _ ?_ (fun hHeld=>?_)
 ·(try dsimp only);refine ⟨?_,?_⟩ <;> (simp only [World.cell?_drew];exact (World.cell?_alloc_lt _ _ ⟨_,_,_⟩ (by simp only [zS];omega)).trans ((cO _ ⟨_,_,_⟩ ⟨_,_,_⟩ _ (by simp)).trans (by assumption)))
 clear hK K
 try simp only [Act.put,qZ]
 refine wpAnyH_done (by kernel_rfl) ?_ _
 exact ⟨rfl,_,_,_,_,_,_,_,_,_,_,_,_,rfl⟩
set_option maxRecDepth 100000 in
set_option maxHeartbeats 4000000 in
theorem collectR4 (wz:World) (P0 g Bo base n cl:Nat) {Al:Option Addr} {xs:List Value} (o:Ob) (x0 x3 x4 x5 x6 x7 x8 x9 x10 x11 x12 x13 x14 x15 x16 x17 x18 x19 x20 x21 x22 x23 x24 x25 x26 x27 x28 x29 x30 x31 x32 x33 x34 x35 x36 x37 x38 x39 x40 x41 x42:Value) (ops:Array Oper) (dr:Bool) (hreg:(Tryz.f184.body.bind (regOfF 4))=some (ops,dr)) (hP:wz.cell? ⟨P0,0,none⟩=some (.pointer (some ⟨g,0,none⟩))) (h7:wz.cell? ⟨g,7,none⟩=some (.slice Al n cl)) (f7:wz.frozen? ⟨g,7,none⟩=false) (o0:wz.cell? ⟨Bo,0,none⟩=some (.int .u64 o.a)) (o1:wz.cell? ⟨Bo,1,none⟩=some (.int .i64 o.n)) (o2:wz.cell? ⟨Bo,2,none⟩=some (.int .u64 o.m)) (o3:wz.cell? ⟨Bo,3,none⟩=some (.int .i64 o.i)) (o4:wz.cell? ⟨Bo,4,none⟩=some (.int .i64 o.k)) (o5:wz.cell? ⟨Bo,5,none⟩=some (.bool o.b)) (hown:wz.ownsRow base 161 6 (.slice Al n cl) n xs) (hbase:base ≤ wz.heap.size) (hn:n + 1 ≤ 100000) (hPg:P0 ≠ g) (hBg:Bo ≠ g) (hne:∀ q,Al.map (fun a=>a.block)=some q → q ≠ P0∧q ≠ g∧q ≠ Bo) :
  RegAny ops (OnlyN fun a' w'=>(∃ g' cap' w7,w'=w7.setCell ⟨g,7,none⟩ (.slice (some ⟨g',0,none⟩) (n + 1) cap')∧w7.ownsRow base 161 6 (.slice (some ⟨g',0,none⟩) (n + 1) cap') (n + 1) (xs ++ cells6 o)∧wz.grownBy w7 (Al.map fun a=>a.block)∧(Al=some ⟨g',0,none⟩ ∨ wz.heap.size ≤ g'))∧∃ (z21 z22 z23 z24 z25 z26 z27 z28 z29 z30:Value),a'={ tmps:=#[x0,.pointer (some ⟨P0,0,none⟩),.pointer (some ⟨Bo,0,none⟩),x3,x4,x5,x6,x7,x8,x9,x10,x11,x12,x13,x14,x15,x16,x17,x18,x19,x20,z21,z22,z23,z24,z25,z26,z27,z28,z29,z30,x31,x32,x33,x34,x35,x36,x37,x38,x39,x40,x41,x42],defers:=[] }) { tmps:=#[x0,.pointer (some ⟨P0,0,none⟩),.pointer (some ⟨Bo,0,none⟩),x3,x4,x5,x6,x7,x8,x9,x10,x11,x12,x13,x14,x15,x16,x17,x18,x19,x20,x21,x22,x23,x24,x25,x26,x27,x28,x29,x30,x31,x32,x33,x34,x35,x36,x37,x38,x39,x40,x41,x42],defers:=[] } wz:=by
 have hreg0:(Tryz.f184.body.bind (regOfF 4))=some (_,_):=rfl
 rw [hreg0] at hreg
 injection hreg with hreg
 injection hreg with hreg1 hreg2
 subst hreg1 hreg2
 clear hreg0
 have hgl:=World.block_lt_of_cell? wz _ h7
 have hPl:=World.block_lt_of_cell? wz _ hP
 have hol:=World.block_lt_of_cell? wz _ o0
 simp only at hgl hPl hol
 refine regAny_held (S:=(fun X:World=>X.cell? ⟨P0,0,none⟩=some (.pointer (some ⟨g,0,none⟩))∧X.cell? ⟨Bo,0,none⟩=some (.int .u64 o.a)∧X.cell? ⟨Bo,1,none⟩=some (.int .i64 o.n)∧X.cell? ⟨Bo,2,none⟩=some (.int .u64 o.m)∧X.cell? ⟨Bo,3,none⟩=some (.int .i64 o.i)∧X.cell? ⟨Bo,4,none⟩=some (.int .i64 o.k)∧X.cell? ⟨Bo,5,none⟩=some (.bool o.b))) (by kernel_rfl) ?_ (fun hHeld=>?_)
 ·(try dsimp only);refine ⟨?_,?_,?_,?_,?_,?_,?_⟩ <;> first | assumption | (simp [go_sem];done) | exact (World.cell?_alloc_lt _ _ ⟨_,_,_⟩ lX).trans (by assumption) | exact (World.frozen?_alloc_past _ _ _ lX).trans (by assumption)
 refine tY 0 ?_
 try simp only [Act.put,qZ]
 refine tY 1 ?_
 try simp only [Act.put,qZ]
 refine tY 2 ?_
 try simp only [Act.put,qZ]
 refine tY 3 ?_
 try simp only [Act.put,qZ]
 refine tY 5 ?_
 try simp only [Act.put,qZ]
 refine wpAnyH_ready (rs:=[4,6]) (by kernel_rfl) (by simp) ?_
 refine AllReadyH.cons rfl (fun K hK=>?_) (AllReadyH.cons rfl (fun K hK=>?_) AllReadyH.nil)
 ·try simp only [qZ]
  go_simp
  refine hK.out _ _ ?_ (fun hHeld=>?_)
  ·(try dsimp only);refine ⟨?_,?_,?_,?_,?_,?_,?_⟩ <;> first | assumption | (simp [go_sem];done) | exact (World.cell?_alloc_lt _ _ ⟨_,_,_⟩ lX).trans (by assumption) | exact (World.frozen?_alloc_past _ _ _ lX).trans (by assumption)
  clear hK K
  try simp only [Act.put,qZ]
  refine tR 6 fun K hK=>?_
  try simp only [qZ]
  go_simp
  refine hK.out _ _ ?_ (fun hHeld=>?_)
  ·(try dsimp only);refine ⟨?_,?_,?_,?_,?_,?_,?_⟩ <;> first | assumption | (simp [go_sem];done) | exact (World.cell?_alloc_lt _ _ ⟨_,_,_⟩ lX).trans (by assumption) | exact (World.frozen?_alloc_past _ _ _ lX).trans (by assumption)
  clear hK K
  try simp only [Act.put,qZ]
  refine tR 7 fun K hK=>?_
  try simp only [qZ]
  refine step_append6 (.tmp 25) (.tmp 27) base Al cl n xs ?_ ?_ wz.heap.size 0 1 1 (cells6 o) ?_ rfl (by omega) ?_ ?_ hn ?_ ?_
  case refine_1=>rfl
  case refine_2=>exact (hown.alloc _).drew
  case refine_6=>show base ≤ (World.alloc wz _).heap.size;rw [World.size_alloc];omega
  case refine_3=>rfl
  case refine_4=>(intro j u hu;have hj:j < 6:=(by have:=(List.getElem?_eq_some_iff.1 hu).1;simpa [cells6] using this);rw [Nat.zero_add];(have hjc:j=0 ∨ j=1 ∨ j=2 ∨ j=3 ∨ j=4 ∨ j=5:=(by omega));rcases hjc with rfl | rfl | rfl | rfl | rfl | rfl <;> (simp only [cells6,List.getElem?_cons_zero,List.getElem?_cons_succ,Option.some.injEq] at hu;subst hu;simp [go_sem]))
  case refine_5=>intro u hu;exact flat6_one [o] u (by simpa [flat6] using hu)
  intro g' cap' w7 hown7 hg7 hB7 hat7
  have hlt7:g < (World.alloc wz (.cells #[.int .u64 o.a,.int .i64 o.n,.int .u64 o.m,.int .i64 o.i,.int .i64 o.k,.bool o.b] 161)).heap.size:=by rw [World.size_alloc];omega
  have hn7:some g ≠ Al.map (fun a=>a.block):=fun e=>by have:=hne _ e.symm;omega
  have c7:w7.cell? ⟨g,7,none⟩=some (.slice Al n cl):=(World.cell?_of_block (hg7.block g hlt7 hn7)).trans ((World.cell?_alloc_lt _ _ ⟨_,_,_⟩ lX).trans h7)
  have e7:w7.frozen? ⟨g,7,none⟩=false:=(World.frozen?_of_block (hg7.block g hlt7 hn7)).trans ((World.frozen?_alloc_past _ _ _ lX).trans f7)
  have hgz:wz.grownBy w7 (Al.map fun a=>a.block):=⟨hg7.os,hg7.tape,hg7.output,Nat.le_trans (Nat.le_trans (Nat.le_succ _) (Nat.le_of_eq (World.size_alloc _ _).symm)) hg7.size,fun k hk hkn=>(hg7.block k (Nat.lt_trans hk (by show _ < (World.alloc wz _).heap.size;rw [World.size_alloc];omega)) hkn).trans (heap_alloc_old (w:=_) (o:=_) (h:=hk))⟩
  have hat8:Al=some ⟨g',0,none⟩ ∨ wz.heap.size ≤ g':=by rcases hat7 with e | e;exact .inl e;right;rw [e];show _ ≤ (World.alloc wz _).heap.size;rw [World.size_alloc];omega
  refine hK.out _ _ ?_ (fun hHeld=>?_)
  ·(try dsimp only);refine ⟨?_,?_,?_,?_,?_,?_,?_⟩ <;> first | exact (World.cell?_of_block (hg7.block _ (by show _ < (World.alloc wz _).heap.size;rw [World.size_alloc];(try dsimp only);omega) (fun e=>by have:=hne _ e.symm;simp only at this;omega))).trans ((World.cell?_alloc_lt _ _ ⟨_,_,_⟩ lX).trans (by assumption))
  clear hK K
  obtain ⟨d0,d1,d2,d3,d4,d5,d6⟩:=id hHeld
  try simp only [Act.put,qZ]
  refine tY 8 ?_
  try simp only [Act.put,qZ]
  refine tY 9 ?_
  try simp only [Act.put,qZ]
  refine tR 10 fun K hK=>?_
  try simp only [qZ]
  go_simp
  refine hK.out _ _ ?_ (fun hHeld=>?_)
  ·(try dsimp only);refine ⟨?_,?_,?_,?_,?_,?_,?_⟩ <;> first | exact (cO _ ⟨_,_,_⟩ ⟨_,_,_⟩ _ (by intro e;injection e;omega)).trans (by assumption) | (simp [go_sem];done)
  clear hK K
  try simp only [Act.put,qZ]
  refine wpAnyH_done (by kernel_rfl) ?_ _
  exact ⟨⟨g',cap',w7,rfl,hown7,hgz,hat8⟩,_,_,_,_,_,_,_,_,_,_,rfl⟩
 ·try simp only [qZ]
  go_simp
  refine hK.out _ _ ?_ (fun hHeld=>?_)
  ·(try dsimp only);refine ⟨?_,?_,?_,?_,?_,?_,?_⟩ <;> first | assumption | (simp [go_sem];done) | exact (World.cell?_alloc_lt _ _ ⟨_,_,_⟩ lX).trans (by assumption) | exact (World.frozen?_alloc_past _ _ _ lX).trans (by assumption)
  clear hK K
  try simp only [Act.put,qZ]
  refine tR 4 fun K hK=>?_
  try simp only [qZ]
  go_simp
  refine hK.out _ _ ?_ (fun hHeld=>?_)
  ·(try dsimp only);refine ⟨?_,?_,?_,?_,?_,?_,?_⟩ <;> first | assumption | (simp [go_sem];done) | exact (World.cell?_alloc_lt _ _ ⟨_,_,_⟩ lX).trans (by assumption) | exact (World.frozen?_alloc_past _ _ _ lX).trans (by assumption)
  clear hK K
  try simp only [Act.put,qZ]
  refine tR 7 fun K hK=>?_
  try simp only [qZ]
  refine step_append6 (.tmp 25) (.tmp 27) base Al cl n xs ?_ ?_ wz.heap.size 0 1 1 (cells6 o) ?_ rfl (by omega) ?_ ?_ hn ?_ ?_
  case refine_1=>rfl
  case refine_2=>exact (hown.alloc _).drew
  case refine_6=>show base ≤ (World.alloc wz _).heap.size;rw [World.size_alloc];omega
  case refine_3=>rfl
  case refine_4=>(intro j u hu;have hj:j < 6:=(by have:=(List.getElem?_eq_some_iff.1 hu).1;simpa [cells6] using this);rw [Nat.zero_add];(have hjc:j=0 ∨ j=1 ∨ j=2 ∨ j=3 ∨ j=4 ∨ j=5:=(by omega));rcases hjc with rfl | rfl | rfl | rfl | rfl | rfl <;> (simp only [cells6,List.getElem?_cons_zero,List.getElem?_cons_succ,Option.some.injEq] at hu;subst hu;simp [go_sem]))
  case refine_5=>intro u hu;exact flat6_one [o] u (by simpa [flat6] using hu)
  intro g' cap' w7 hown7 hg7 hB7 hat7
  have hlt7:g < (World.alloc wz (.cells #[.int .u64 o.a,.int .i64 o.n,.int .u64 o.m,.int .i64 o.i,.int .i64 o.k,.bool o.b] 161)).heap.size:=by rw [World.size_alloc];omega
  have hn7:some g ≠ Al.map (fun a=>a.block):=fun e=>by have:=hne _ e.symm;omega
  have c7:w7.cell? ⟨g,7,none⟩=some (.slice Al n cl):=(World.cell?_of_block (hg7.block g hlt7 hn7)).trans ((World.cell?_alloc_lt _ _ ⟨_,_,_⟩ lX).trans h7)
  have e7:w7.frozen? ⟨g,7,none⟩=false:=(World.frozen?_of_block (hg7.block g hlt7 hn7)).trans ((World.frozen?_alloc_past _ _ _ lX).trans f7)
  have hgz:wz.grownBy w7 (Al.map fun a=>a.block):=⟨hg7.os,hg7.tape,hg7.output,Nat.le_trans (Nat.le_trans (Nat.le_succ _) (Nat.le_of_eq (World.size_alloc _ _).symm)) hg7.size,fun k hk hkn=>(hg7.block k (Nat.lt_trans hk (by show _ < (World.alloc wz _).heap.size;rw [World.size_alloc];omega)) hkn).trans (heap_alloc_old (w:=_) (o:=_) (h:=hk))⟩
  have hat8:Al=some ⟨g',0,none⟩ ∨ wz.heap.size ≤ g':=by rcases hat7 with e | e;exact .inl e;right;rw [e];show _ ≤ (World.alloc wz _).heap.size;rw [World.size_alloc];omega
  refine hK.out _ _ ?_ (fun hHeld=>?_)
  ·(try dsimp only);refine ⟨?_,?_,?_,?_,?_,?_,?_⟩ <;> first | exact (World.cell?_of_block (hg7.block _ (by show _ < (World.alloc wz _).heap.size;rw [World.size_alloc];(try dsimp only);omega) (fun e=>by have:=hne _ e.symm;simp only at this;omega))).trans ((World.cell?_alloc_lt _ _ ⟨_,_,_⟩ lX).trans (by assumption))
  clear hK K
  obtain ⟨d0,d1,d2,d3,d4,d5,d6⟩:=id hHeld
  try simp only [Act.put,qZ]
  refine tY 8 ?_
  try simp only [Act.put,qZ]
  refine tY 9 ?_
  try simp only [Act.put,qZ]
  refine tR 10 fun K hK=>?_
  try simp only [qZ]
  go_simp
  refine hK.out _ _ ?_ (fun hHeld=>?_)
  ·(try dsimp only);refine ⟨?_,?_,?_,?_,?_,?_,?_⟩ <;> first | exact (cO _ ⟨_,_,_⟩ ⟨_,_,_⟩ _ (by intro e;injection e;omega)).trans (by assumption) | (simp [go_sem];done)
  clear hK K
  try simp only [Act.put,qZ]
  refine wpAnyH_done (by kernel_rfl) ?_ _
  exact ⟨⟨g',cap',w7,rfl,hown7,hgz,hat8⟩,_,_,_,_,_,_,_,_,_,_,rfl⟩
set_option maxRecDepth 100000 in
set_option maxHeartbeats 4000000 in
theorem collectR5 (wz:World) (P0 g Bo bn a m c7 L:Nat) {A7:Option Addr} (y:Int) (x0 x3 x4 x5 x6 x7 x8 x9 x10 x11 x12 x13 x14 x15 x16 x17 x18 x19 x20 x21 x22 x23 x24 x25 x26 x27 x28 x29 x30 x31 x32 x33 x34 x35 x36 x37 x38 x39 x40 x41 x42:Value) (ops:Array Oper) (dr:Bool) (hreg:(Tryz.f184.body.bind (regOfF 5))=some (ops,dr)) (hP:wz.cell? ⟨P0,0,none⟩=some (.pointer (some ⟨g,0,none⟩))) (h7:wz.cell? ⟨g,7,none⟩=some (.slice A7 m c7)) (h8:wz.cell? ⟨g,8,none⟩=some (.slice (some ⟨bn,0,none⟩) L L)) (o0:wz.cell? ⟨Bo,0,none⟩=some (.int .u64 a)) (hn:wz.cell? ⟨bn,a,none⟩=some (.int .i64 y)) (fn:wz.frozen? ⟨bn,a,none⟩=false) (ha:a < L) (hL:L ≤ 16384) (h1:bn ≠ P0) (h2:bn ≠ g) (h3:bn ≠ Bo) :
  RegAny ops (OnlyN fun a' w'=>w'=(wz.setCell ⟨bn,a,none⟩ (.int .i64 (m:Nat))).drew∧∃ (z31 z32 z33 z34 z35 z36 z37 z38 z39 z40 z41 z42:Value),a'={ tmps:=#[x0,.pointer (some ⟨P0,0,none⟩),.pointer (some ⟨Bo,0,none⟩),x3,x4,x5,x6,x7,x8,x9,x10,x11,x12,x13,x14,x15,x16,x17,x18,x19,x20,x21,x22,x23,x24,x25,x26,x27,x28,x29,x30,z31,z32,z33,z34,z35,z36,z37,z38,z39,z40,z41,z42],defers:=[] }) { tmps:=#[x0,.pointer (some ⟨P0,0,none⟩),.pointer (some ⟨Bo,0,none⟩),x3,x4,x5,x6,x7,x8,x9,x10,x11,x12,x13,x14,x15,x16,x17,x18,x19,x20,x21,x22,x23,x24,x25,x26,x27,x28,x29,x30,x31,x32,x33,x34,x35,x36,x37,x38,x39,x40,x41,x42],defers:=[] } wz:=by
 have hreg0:(Tryz.f184.body.bind (regOfF 5))=some (_,_):=rfl
 rw [hreg0] at hreg
 injection hreg with hreg
 injection hreg with hreg1 hreg2
 subst hreg1 hreg2
 clear hreg0
 have i0:(0:Int) ≤ (a:Int):=by omega
 have i1:(a:Int) < (L:Int):=by omega
 refine regAny_held (S:=(fun X:World=>X.cell? ⟨P0,0,none⟩=some (.pointer (some ⟨g,0,none⟩))∧X.cell? ⟨g,7,none⟩=some (.slice A7 m c7)∧X.cell? ⟨g,8,none⟩=some (.slice (some ⟨bn,0,none⟩) L L)∧X.cell? ⟨Bo,0,none⟩=some (.int .u64 a))) (by kernel_rfl) ?_ (fun hHeld=>?_)
 ·(try dsimp only);refine ⟨?_,?_,?_,?_⟩ <;> first | assumption | (simp [go_sem];done) | exact (World.cell?_alloc_lt _ _ ⟨_,_,_⟩ lX).trans (by assumption) | exact (World.frozen?_alloc_past _ _ _ lX).trans (by assumption)
 refine tY 0 ?_
 try simp only [Act.put,qZ]
 refine tY 1 ?_
 try simp only [Act.put,qZ]
 refine tY 2 ?_
 try simp only [Act.put,qZ]
 refine tY 3 ?_
 try simp only [Act.put,qZ]
 refine tY 4 ?_
 try simp only [Act.put,qZ]
 refine tY 5 ?_
 try simp only [Act.put,qZ]
 refine tY 6 ?_
 try simp only [Act.put,qZ]
 refine tY 7 ?_
 try simp only [Act.put,qZ]
 refine tY 8 ?_
 try simp only [Act.put,qZ]
 refine tY 9 ?_
 try simp only [Act.put,qZ]
 refine tY 10 ?_
 try simp only [Act.put,qZ]
 refine tY 11 ?_
 try simp only [Act.put,qZ]
 refine tR 12 fun K hK=>?_
 try simp only [qZ]
 go_simp
 refine hK.out _ _ ?_ (fun hHeld=>?_)
 ·(try dsimp only);refine ⟨?_,?_,?_,?_⟩ <;> ((try simp only [World.cell?_drew]);exact (cO _ ⟨_,_,_⟩ ⟨_,_,_⟩ _ (by intro e;injection e;omega)).trans (by assumption))
 clear hK K
 try simp only [Act.put,qZ]
 refine wpAnyH_done (by kernel_rfl) ?_ _
 exact ⟨rfl,_,_,_,_,_,_,_,_,_,_,_,_,rfl⟩
theorem noDefer_of {ops:Array Oper} (h:(ops.toList.all fun o=>match o.op with | .defer _=>false | _=>true)=true):NoDefer ops:=fun i o ho c e=>by
 rw [List.all_eq_true] at h
 have:=h o (List.mem_of_getElem? (by rw [Array.getElem?_toList];exact ho))
 rw [e] at this
 cases this
end Go.Proofs.YtafpkaifaccehaaGreatDoor
namespace Go.Proofs.YtafpkaifaccehaaGreatDoor
open Go.RowKit Go.Shelf
attribute [local go_sem] Oper.semAt_some
theorem keepsFrom_row {B:Nat} {W W':World} {row:Option Nat} (hg:W.grownBy W' row) (hr:∀ q,row=some q → ∃ o:Obj,W.heap[q]?=some o∧o.isCells=true):KeepsFrom B W W':=
 ⟨hg.size,fun k o _ hk ho=>(hg.block k (heap_lt hk) (fun e=>by
  obtain ⟨o',h1,h2⟩:=hr k e.symm
  rw [hk] at h1
  injection h1 with h1
  rw [h1,h2] at ho
  cases ho)).trans hk⟩
theorem owns_block {w:World} {B s n q:Nat} {e:TypeId} {A:Option Addr} {cap:Nat} {xs:List Value} (h:w.ownsRow B e s (.slice A n cap) n xs) (hq:A.map (fun a=>a.block)=some q):∃ c,A=some ⟨q,0,none⟩∧B ≤ q∧w.heap[q]?=some (.cells c e (0,0)):=by
 obtain ⟨_,⟨e1,_⟩ | ⟨g,c,cur,e1,h2,h3,_⟩⟩:=h
 ·injection e1 with e1
  subst e1
  cases hq
 ·injection e1 with e1
  subst e1
  have hq:g=q:=by simpa using hq
  subst hq
  exact ⟨_,rfl,h2,h3⟩
theorem grown_setg (W:World) (g o:Nat) (u:Value):W.grownBy (W.setCell ⟨g,o,none⟩ u) (some g):=⟨rfl,rfl,rfl,(KeepsWalks.setCell W _ u).size,fun k _ hk=>Below.heap_setCell _ _ _ k (fun e=>hk (by rw [e]))⟩
theorem grown_drew (W:World) (row:Option Nat):W.grownBy W.drew row:=⟨rfl,rfl,rfl,Nat.le_refl _,fun _ _ _=>rfl⟩
theorem Rc.set4 {w:World} {g:Nat} {v:Hv} {h:Hp} {x4 x5:Int} {L N:Value} (r:Rc w g v h x4 x5 L N) (y:Int):Rc (w.setCell ⟨g,4,none⟩ (.int .u32 y)) g v h y x5 L N:=
 ⟨r.mem.kc (Kc.of_grown (grown_setg _ _ _ _)),⟨(cO _ ⟨g,4,none⟩ ⟨g,0,none⟩ _ (by simp)).trans r.hb.c0,(cO _ ⟨g,4,none⟩ ⟨g,1,none⟩ _ (by simp)).trans r.hb.c1,(cO _ ⟨g,4,none⟩ ⟨g,2,none⟩ _ (by simp)).trans r.hb.c2,(cO _ ⟨g,4,none⟩ ⟨g,3,none⟩ _ (by simp)).trans r.hb.c3⟩,World.cell?_setCell_same _ _ _ r.c4,(cO _ ⟨g,4,none⟩ ⟨g,5,none⟩ _ (by simp)).trans r.c5,(cO _ ⟨g,4,none⟩ ⟨g,7,none⟩ _ (by simp)).trans r.c7,(cO _ ⟨g,4,none⟩ ⟨g,8,none⟩ _ (by simp)).trans r.c8,(World.frozen?_setCell _ _ _ _).trans r.f4,(World.frozen?_setCell _ _ _ _).trans r.f5,(World.frozen?_setCell _ _ _ _).trans r.f7,(World.frozen?_setCell _ _ _ _).trans r.f8⟩
theorem Rc.set5 {w:World} {g:Nat} {v:Hv} {h:Hp} {x4 x5:Int} {L N:Value} (r:Rc w g v h x4 x5 L N) (y:Int):Rc (w.setCell ⟨g,5,none⟩ (.int .i32 y)) g v h x4 y L N:=
 ⟨r.mem.kc (Kc.of_grown (grown_setg _ _ _ _)),⟨(cO _ ⟨g,5,none⟩ ⟨g,0,none⟩ _ (by simp)).trans r.hb.c0,(cO _ ⟨g,5,none⟩ ⟨g,1,none⟩ _ (by simp)).trans r.hb.c1,(cO _ ⟨g,5,none⟩ ⟨g,2,none⟩ _ (by simp)).trans r.hb.c2,(cO _ ⟨g,5,none⟩ ⟨g,3,none⟩ _ (by simp)).trans r.hb.c3⟩,(cO _ ⟨g,5,none⟩ ⟨g,4,none⟩ _ (by simp)).trans r.c4,World.cell?_setCell_same _ _ _ r.c5,(cO _ ⟨g,5,none⟩ ⟨g,7,none⟩ _ (by simp)).trans r.c7,(cO _ ⟨g,5,none⟩ ⟨g,8,none⟩ _ (by simp)).trans r.c8,(World.frozen?_setCell _ _ _ _).trans r.f4,(World.frozen?_setCell _ _ _ _).trans r.f5,(World.frozen?_setCell _ _ _ _).trans r.f7,(World.frozen?_setCell _ _ _ _).trans r.f8⟩
theorem Rc.set7 {w:World} {g:Nat} {v:Hv} {h:Hp} {x4 x5:Int} {L N:Value} (r:Rc w g v h x4 x5 L N) (u:Value):Rc (w.setCell ⟨g,7,none⟩ u) g v h x4 x5 u N:=
 ⟨r.mem.kc (Kc.of_grown (grown_setg _ _ _ _)),⟨(cO _ ⟨g,7,none⟩ ⟨g,0,none⟩ _ (by simp)).trans r.hb.c0,(cO _ ⟨g,7,none⟩ ⟨g,1,none⟩ _ (by simp)).trans r.hb.c1,(cO _ ⟨g,7,none⟩ ⟨g,2,none⟩ _ (by simp)).trans r.hb.c2,(cO _ ⟨g,7,none⟩ ⟨g,3,none⟩ _ (by simp)).trans r.hb.c3⟩,(cO _ ⟨g,7,none⟩ ⟨g,4,none⟩ _ (by simp)).trans r.c4,(cO _ ⟨g,7,none⟩ ⟨g,5,none⟩ _ (by simp)).trans r.c5,World.cell?_setCell_same _ _ _ r.c7,(cO _ ⟨g,7,none⟩ ⟨g,8,none⟩ _ (by simp)).trans r.c8,(World.frozen?_setCell _ _ _ _).trans r.f4,(World.frozen?_setCell _ _ _ _).trans r.f5,(World.frozen?_setCell _ _ _ _).trans r.f7,(World.frozen?_setCell _ _ _ _).trans r.f8⟩
theorem Rc.set8 {w:World} {g:Nat} {v:Hv} {h:Hp} {x4 x5:Int} {L N:Value} (r:Rc w g v h x4 x5 L N) (u:Value):Rc (w.setCell ⟨g,8,none⟩ u) g v h x4 x5 L u:=
 ⟨r.mem.kc (Kc.of_grown (grown_setg _ _ _ _)),⟨(cO _ ⟨g,8,none⟩ ⟨g,0,none⟩ _ (by simp)).trans r.hb.c0,(cO _ ⟨g,8,none⟩ ⟨g,1,none⟩ _ (by simp)).trans r.hb.c1,(cO _ ⟨g,8,none⟩ ⟨g,2,none⟩ _ (by simp)).trans r.hb.c2,(cO _ ⟨g,8,none⟩ ⟨g,3,none⟩ _ (by simp)).trans r.hb.c3⟩,(cO _ ⟨g,8,none⟩ ⟨g,4,none⟩ _ (by simp)).trans r.c4,(cO _ ⟨g,8,none⟩ ⟨g,5,none⟩ _ (by simp)).trans r.c5,(cO _ ⟨g,8,none⟩ ⟨g,7,none⟩ _ (by simp)).trans r.c7,World.cell?_setCell_same _ _ _ r.c8,(World.frozen?_setCell _ _ _ _).trans r.f4,(World.frozen?_setCell _ _ _ _).trans r.f5,(World.frozen?_setCell _ _ _ _).trans r.f7,(World.frozen?_setCell _ _ _ _).trans r.f8⟩
theorem heap_setCell_same {w:World} {b j:Nat} {cs:Array Value} {ty:TypeId} (h:w.heap[b]?=some (.cells cs ty (0,0))) (u:Value):(w.setCell ⟨b,j,none⟩ u).heap[b]?=some (.cells (cs.setIfInBounds j u) ty (0,0)):=by
 simp [World.setCell,Array.getElem?_modify,h]
theorem heap_setCell_far {w:World} {k:Nat} (p:Addr) (u:Value) (h:k ≠ p.block):(w.setCell p u).heap[k]?=w.heap[k]?:=Below.heap_setCell _ _ _ k h
theorem Rc.far {w:World} {g:Nat} {v:Hv} {h:Hp} {x4 x5:Int} {L N:Value} (r:Rc w g v h x4 x5 L N) {b j:Nat} (hb:g < b) (u:Value):Rc (w.setCell ⟨b,j,none⟩ u) g v h x4 x5 L N:=by
 have oth:∀ (o:Nat) (y:Value),w.cell? ⟨g,o,none⟩=some y → (w.setCell ⟨b,j,none⟩ u).cell? ⟨g,o,none⟩=some y:=fun o y hy=>(cO _ ⟨_,_,_⟩ ⟨_,_,_⟩ _ (by intro e;injection e;omega)).trans hy
 exact ⟨r.mem.below ((Below.refl g w).setCell (p:=⟨b,j,none⟩) (by show g ≤ b;omega) u),⟨oth _ _ r.hb.c0,oth _ _ r.hb.c1,oth _ _ r.hb.c2,oth _ _ r.hb.c3⟩,oth _ _ r.c4,oth _ _ r.c5,oth _ _ r.c7,oth _ _ r.c8,
  (World.frozen?_setCell _ _ _ _).trans r.f4,(World.frozen?_setCell _ _ _ _).trans r.f5,(World.frozen?_setCell _ _ _ _).trans r.f7,(World.frozen?_setCell _ _ _ _).trans r.f8⟩
def InB (L N:Value) (q:Nat):Prop:=L.ownBlock=some q ∨ N.ownBlock=some q
def CollI (w:World) (base g P0 bn:Nat) (v:Hv) (h:Hp) (pre:List (CurO h)) (W:World):Prop:=
 ∃ Al cl,W.cell? ⟨P0,0,none⟩=some (.pointer (some ⟨g,0,none⟩))∧Rc W g v h 0 1 (.slice Al pre.length cl) (.slice (some ⟨bn,0,none⟩) h.ws.length h.ws.length) ∧
  W.ownsRow base 161 6 (.slice Al pre.length cl) pre.length (flat6 (pre.map (·.1))) ∧
  (∀ j,j < h.ws.length → W.cell? ⟨bn,j,none⟩=some (.int .i64 (lastP (addrs (pre.map (·.1))) j:Nat))∧W.frozen? ⟨bn,j,none⟩=false)∧base ≤ W.heap.size∧w.grownBy W (some g)∧∃ cs,W.heap[bn]?=some (.cells cs 3 (0,0))
theorem collI_own (w:World) (base g P0 bn:Nat) (v:Hv) (h:Hp) (B:Nat) (hB:w.heap.size ≤ B):OwnFrom B (CollI w base g P0 bn v h):=by
 rintro pre W W' row ⟨Al,cl,h1,h2,h3,h4,h5,h6,cs,h7⟩ hg hr
 have hr2:=fun q e=>(hr q e).2
 refine ⟨Al,cl,cell_kept h1 hg hr2,h2.kept hg hr2,h3.kept hg ?_,fun j hj=>⟨cell_kept (h4 j hj).1 hg hr2,(frozen_kept (h4 j hj).1 hg hr2).trans (h4 j hj).2⟩,Nat.le_trans h5 hg.size,?_,cs,(hg.block bn (heap_lt h7) (fun e=>by
  obtain ⟨o,e1,e2⟩:=hr2 bn e.symm
  rw [h7] at e1
  injection e1 with e1
  rw [← e1] at e2
  cases e2)).trans h7⟩
 ·rcases hA:Al.map (fun a=>a.block) with _ | q
  ·left
   cases Al with
   | none=>rfl
   | some a=>cases hA
  ·right
   obtain ⟨c,rfl,_,h10⟩:=owns_block h3 hA
   intro e
   obtain ⟨o,h8,h9⟩:=hr2 q e.symm
   rw [h10] at h8
   injection h8 with h8
   rw [← h8] at h9
   cases h9
 ·exact ⟨hg.os.trans h6.os,hg.tape.trans h6.tape,hg.output.trans h6.output,Nat.le_trans h6.size hg.size,fun k hk hn=>(hg.block k (Nat.lt_of_lt_of_le hk h6.size) (fun e=>by have:=(hr k e.symm).1;omega)).trans (h6.block k hk hn)⟩
set_option maxHeartbeats 8000000 in
theorem zcollect_any (w:World) (g:Nat) (v:Hv) (h:Hp) (hF:Framed h) (hO:Owned h) (hS:Filled h) (r:Rc w g v h 0 1 (.slice none 0 0) (.slice none 0 0)) :
  Calls Tryz.prog 184 #[.pointer (some ⟨g,0,none⟩)] w fun e w'=>e=.returned (.tuple #[])∧(∃ L N,Rc w' g v h 0 1 L N∧Coll w' g h L N∧∀ q,InB L N q → w.heap.size ≤ q)∧w.grownBy w' (some g):=by
 have hgl:=r.lt
 have hw:=hF.words
 have hok:=hF.spans
 have HCUR:=Lib.hid fun (w:World)=>zcurrent_any v h w
 have hNle:=cursH_len (h:=h) hok
 have HOB:=Lib.hid fun (o:Ob) (ho:o ∈ cursH h)=>OkH.ob hF hO hS (cursH_mem ho).1
 have HND:=Lib.hid (addrs_nodup (h:=h) hok)
 have HPO:=Lib.hid (addrs_pos hF hO hS)
 obtain ⟨L,hL⟩:∃ L,Hid (h.ws.length=L):=⟨_,rfl⟩
 have RR:=Lib.hid r
 obtain ⟨b0,b1,b2,b3⟩:=id r.hb
 have b8:=r.c8
 have e8:=r.f8
 unfold hpV hpv at HCUR
 refine (callsIn_wide (n:=3)).1 ?_
 refine callsIn_of_wp_marks Tryz.func184 rfl trivial ?_ rfl
 simp only [Tryz.ntmps184,List.size_toArray,List.length_cons,List.length_nil,Nat.reduceAdd,Nat.reduceSub,Array.replicate_succ,Array.replicate_zero,List.push_toArray,List.append_toArray,List.nil_append,List.cons_append]
 gi_wp2
 refine wpIn_mono (wpIn_wide.2 ((collectR1 (w.alloc (.cells #[.pointer (some ⟨g,0,none⟩)] 108)) w.heap.size g h.ws.length v.ca (A:=v.A) _ _ _ _ _ _ _ _ _ _ _ _ _ _ _ _ _ _ _ _ _ _ _ _ _ _ _ _ _ _ _ _ _ _ _ _ _ _ _ _ _ _ _ _ rfl (by simp [go_sem]) ((World.cell?_alloc_lt _ _ ⟨_,_,_⟩ lX).trans b0) ((World.cell?_alloc_lt _ _ ⟨_,_,_⟩ lX).trans b8) ((World.frozen?_alloc_past _ _ _ lX).trans e8) hw).wp 1)) ?_
 intro e a' w1 hO1
 obtain ⟨rfl,hw1,z0,z1,z2,z3,z4,z5,z6,z7,z8,z9,z10,z11,rfl⟩:=hO1.ends
 have hbn:(w.alloc (.cells #[.pointer (some ⟨g,0,none⟩)] 108)).heap.size=w.heap.size + 1:=World.size_alloc _ _
 rw [hbn] at hw1
 have hs1:w1.heap.size=w.heap.size + 2:=by rw [hw1];show (World.alloc _ _).heap.size=_;rw [World.size_alloc,World.size_setCell,World.size_alloc]
 have hP1:w1.cell? ⟨w.heap.size,0,none⟩=some (.pointer (some ⟨g,0,none⟩)):=by
  rw [hw1,World.cell?_drew]
  exact (World.cell?_alloc_lt _ _ ⟨_,_,_⟩ (by rw [World.size_setCell,World.size_alloc];simp)).trans ((cO _ ⟨_,_,_⟩ ⟨_,_,_⟩ _ (by simp)).trans (by simp [go_sem]))
 have hG1:w.grownBy w1 (some g):=by
  rw [hw1]
  exact grown_trans (grown_trans (grown_trans (World.grownBy_alloc _ _ _) (grown_setg _ _ _ _)) (World.grownBy_alloc _ _ _)) (grown_drew _ _)
 have hR1:Rc w1 g v h 0 1 (.slice none 0 0) (.slice (some ⟨w.heap.size + 1,0,none⟩) h.ws.length h.ws.length):=by
  rw [hw1]
  exact ((((RR.out).later (Below.alloc (Below.refl _ _) (Nat.le_refl _) _)).set8 _).later (Below.alloc (Below.refl _ _) (Nat.le_refl _) _)).later (Below.drew (Below.refl _ _))
 have hB1:w1.heap[w.heap.size + 1]?=some (.cells (intz h.ws.length).toArray 3 (0,0)):=by
  rw [hw1]
  have:=heap_alloc_new ((w.alloc (.cells #[.pointer (some ⟨g,0,none⟩)] 108)).setCell ⟨g,8,none⟩ (.slice (some ⟨w.heap.size + 1,0,none⟩) h.ws.length h.ws.length)) (.cells (intz h.ws.length).toArray 3)
  rw [World.size_setCell,World.size_alloc] at this
  exact this
 clear hw1 b0 b1 b2 b3 b8 e8 r hbn
 obtain ⟨b0,b1,b2,b3⟩:=id hR1.hb
 have p0l:w.heap.size < w1.heap.size:=by omega
 have pgl:g < w1.heap.size:=by omega
 gi_wp2_with fail
 refine ⟨trivial,?_⟩
 gi_at_call 186
 refine (callsIn_wide.2 (HCUR.out _)).mono ?_
 rintro e W0 ⟨rfl,hW0⟩
 have hs0:W0.heap.size=w.heap.size + 3:=by rw [hW0,World.size_alloc,hs1]
 have hBW:Below w1.heap.size w1 W0:=by rw [hW0];exact Below.alloc (Below.refl _ _) (Nat.le_refl _) _
 have hC0:W0.heap[w.heap.size + 2]?=some (.cells #[.slice v.A h.ws.length v.ca,.int .i64 h.n,.slice v.U h.us.length v.cu,.slice v.V h.l.length v.cv] 112 (0,0)):=by
  rw [hW0,← hs1]
  exact heap_alloc_new _ _
 have hI0:CollI w (w.heap.size + 3) g w.heap.size (w.heap.size + 1) v h [] W0:=by
  refine ⟨none,0,(hBW.cell (p:=⟨_,_,_⟩) p0l).trans hP1,hR1.later hBW,World.ownsRow_nil _ _ _ _,fun j hj=>?_,by omega,?_,_,(hBW.block _ (by omega)).trans hB1⟩
  ·have hk:W0.heap[w.heap.size + 1]?=some (.cells (intz h.ws.length).toArray 3 (0,0)):=(hBW.block _ (by omega)).trans hB1
   refine ⟨?_,?_⟩
   ·rw [cell_of_row W0 _ j _ _ (0,0) hk]
    simp [intz,hj,lastP,lastR,addrs]
   ·simp [World.frozen?,hk]
  ·exact grown_trans hG1 (grown_some g hBW)
 have hM0:=(hR1.later hBW).mem
 rw [hs1]
 clear hW0 b0 b1 b2 b3 hBW hB1 hP1 hR1 hG1
 gi_wp2
 refine wpIn_rangeFunc_ownH (F:=Fence.wide) rfl (by omega) (gf:=237) (lb:=#[.pointer (some ⟨w.heap.size + 2,0,none⟩)]) rfl trivial (enters_of Tryz.func237 (by kernel_rfl) rfl)
  (zcur_stops (3 - 1) (by omega) g (w.heap.size + 2) v h hw hok W0 hC0 (by omega) (by omega) hM0) (fun h k=>h.trans k) (Ki.putObj (w:=W0)) (Below.refl _ _) (fun _=>rfl)
  (CollI w (w.heap.size + 3) g w.heap.size (w.heap.size + 1) v h) (fun _ _ _=>False) (collI_own _ _ _ _ _ _ _ _ (by omega)) (fun _ _ _ _ _ hs _ _=>hs) hI0
  (fun (x:CurO h) a' W=>∃ (Bx:Nat) (y0 y3 y4 y5 y6 y7 y8 y9 y10 y11 y12 y13 y14 y15 y16 y17 y18 y19 y20 y21 y22 y23 y24 y25 y26 y27 y28 y29 y30 y31 y32 y33 y34 y35 y36 y37 y38 y39 y40 y41 y42:Value),w.heap.size + 3 ≤ Bx∧(∀ j u,(cells6 x.1)[j]?=some u → W.cell? ⟨Bx,j,none⟩=some u)∧(∃ (Al:Option Addr) (m cl:Nat),W.cell? ⟨g,7,none⟩=some (.slice Al m cl)∧Al.map (fun a=>a.block) ≠ some Bx)∧a'={ tmps:=#[y0,.pointer (some ⟨w.heap.size,0,none⟩),.pointer (some ⟨Bx,0,none⟩),y3,y4,y5,y6,y7,y8,y9,y10,y11,y12,y13,y14,y15,y16,y17,y18,y19,y20,y21,y22,y23,y24,y25,y26,y27,y28,y29,y30,y31,y32,y33,y34,y35,y36,y37,y38,y39,y40,y41,y42],defers:=[] }) ?hAx ?assign ?body ?done ?stop
 case hAx=>
  rintro x a' _ A B row ⟨Bx,y0,y3,y4,y5,y6,y7,y8,y9,y10,y11,y12,y13,y14,y15,y16,y17,y18,y19,y20,y21,y22,y23,y24,y25,y26,y27,y28,y29,y30,y31,y32,y33,y34,y35,y36,y37,y38,y39,y40,y41,y42,h1,h2,⟨Al,m,cl,h4,h5⟩,h3⟩ hg hr
  exact ⟨Bx,y0,y3,y4,y5,y6,y7,y8,y9,y10,y11,y12,y13,y14,y15,y16,y17,y18,y19,y20,y21,y22,y23,y24,y25,y26,y27,y28,y29,y30,y31,y32,y33,y34,y35,y36,y37,y38,y39,y40,y41,y42,h1,fun j u hu=>cell_kept (h2 j u hu) hg (fun q e=>(hr q e).2),⟨Al,m,cl,cell_kept h4 hg (fun q e=>(hr q e).2),h5⟩,h3⟩
 case assign=>
  intro l pre x W K hI hK
  simp only [obV]
  gi_wp2
  refine hK _ _ ((KeepsOthers.alloc _ _).from _) (Ki.of_below (Below.alloc (Below.refl _ _) (Nat.le_refl _) _)) ((collI_own w _ _ _ _ _ _ W.heap.size ?hsz).alloc _ hI) ⟨W.heap.size,_,_,_,_,_,_,_,_,_,_,_,_,_,_,_,_,_,_,_,_,_,_,_,_,_,_,_,_,_,_,_,_,_,_,_,_,_,_,_,_,_,?_,?_,?_,rfl⟩
  case hsz=>
   obtain ⟨_,_,_,_,_,_,_,i6,_⟩:=hI
   exact i6.size
  ·obtain ⟨_,_,_,_,_,_,i5,_⟩:=hI
   exact i5
  ·intro j u hu
   rw [cell_of_row _ _ j _ _ (0,0) (heap_alloc_new _ _)]
   rw [← hu,List.getElem?_toArray]
   rfl
  ·obtain ⟨Al,cl,_,i2,i3,_,_,_,_⟩:=hI
   refine ⟨Al,pre.length,cl,(World.cell?_alloc_lt _ _ ⟨_,_,_⟩ i2.lt).trans i2.c7,fun e=>?_⟩
   obtain ⟨c,_,_,e2⟩:=owns_block i3 e
   exact absurd (heap_lt e2) (by omega)
 case body=>
  rintro l pre x a' W hl ⟨rc,hr⟩ ⟨Al,cl,i1,i2,i3,i4,i5,i6,cs,i7⟩ ⟨Bx,y0,y3,y4,y5,y6,y7,y8,y9,y10,y11,y12,y13,y14,y15,y16,y17,y18,y19,y20,y21,y22,y23,y24,y25,y26,y27,y28,y29,y30,y31,y32,y33,y34,y35,y36,y37,y38,y39,y40,y41,y42,h1,h2,⟨Al',m',cl',h4,h5⟩,rfl⟩ hlt
  obtain ⟨o,ho⟩:=x
  have OK:=HOB.out o ho
  have hoa:o.a < h.ws.length:=by have:=OK.a1;omega
  have q0:=h2 0 _ rfl
  have q1:=h2 1 _ rfl
  have q2:=h2 2 _ rfl
  have q3:=h2 3 _ rfl
  have q4:=h2 4 _ rfl
  have q5:=h2 5 _ rfl
  have hBl:=World.block_lt_of_cell? W _ q0
  simp only at hBl q0 q1 q2 q3 q4 q5
  have hAl:Al'=Al:=by
   have:=h4.symm.trans i2.c7
   injection this with this
   injection this
  subst hAl
  have hne:∀ q,Al'.map (fun a=>a.block)=some q → q ≠ w.heap.size∧q ≠ g∧q ≠ Bx:=by
   intro q hq
   obtain ⟨c,_,e1,e2⟩:=owns_block i3 hq
   exact ⟨by omega,by omega,fun e=>h5 (by rw [hq,e])⟩
  have hgW:=i2.lt
  gi_wp2_with fail
  refine wpIn_mono ((collectR4 W w.heap.size g Bx (w.heap.size + 3) pre.length cl (Al:=Al') (xs:=flat6 (pre.map (·.1))) o _ _ _ _ _ _ _ _ _ _ _ _ _ _ _ _ _ _ _ _ _ _ _ _ _ _ _ _ _ _ _ _ _ _ _ _ _ _ _ _ _ _ _ rfl i1 i2.c7 i2.f7 q0 q1 q2 q3 q4 q5 i3 i5 (by omega) (by omega) (by omega) hne).wpIn (noDefer_of rfl) (onlyN_out _) 4 l _) ?_
  intro e a' w4 hO4
  obtain ⟨rfl,⟨g',cap',w7,rfl,hown7,hg7,hat7⟩,z0,z1,z2,z3,z4,z5,z6,z7,z8,z9,rfl⟩:=hO4.ends
  have hlow:∀ k,k < W.heap.size → Al'.map (fun a=>a.block) ≠ some k → w7.heap[k]?=W.heap[k]?:=fun k h1 h2=>hg7.block k h1 (fun e=>h2 e.symm)
  have hng:Al'.map (fun a=>a.block) ≠ some g:=fun e=>(hne g e).2.1 rfl
  have hnP:Al'.map (fun a=>a.block) ≠ some w.heap.size:=fun e=>(hne _ e).1 rfl
  have hnb:Al'.map (fun a=>a.block) ≠ some (w.heap.size + 1):=fun e=>by
   obtain ⟨c,_,e1,_⟩:=owns_block i3 e
   omega
  have hsz6:=i6.size
  have hcell:∀ (b j:Nat) (u:Value),Al'.map (fun a=>a.block) ≠ some b → W.cell? ⟨b,j,none⟩=some u → w7.cell? ⟨b,j,none⟩=some u:=fun b j u h1 h2=>(World.cell?_of_block (hlow b (World.block_lt_of_cell? W _ h2) h1)).trans h2
  have hfroz:∀ (b j:Nat),b < W.heap.size → Al'.map (fun a=>a.block) ≠ some b → w7.frozen? ⟨b,j,none⟩=W.frozen? ⟨b,j,none⟩:=fun b j h1 h2=>World.frozen?_of_block (hlow b h1 h2)
  have hR7:Rc w7 g v h 0 1 (.slice Al' pre.length cl) (.slice (some ⟨w.heap.size + 1,0,none⟩) h.ws.length h.ws.length):=by
   refine ⟨i2.mem.below ⟨hg7.os,hg7.tape,hg7.output,hg7.size,fun k hk=>hlow k (by omega) (fun e=>?_)⟩,⟨hcell _ _ _ hng i2.hb.c0,hcell _ _ _ hng i2.hb.c1,hcell _ _ _ hng i2.hb.c2,hcell _ _ _ hng i2.hb.c3⟩,hcell _ _ _ hng i2.c4,hcell _ _ _ hng i2.c5,hcell _ _ _ hng i2.c7,hcell _ _ _ hng i2.c8,
    (hfroz _ _ hgW hng).trans i2.f4,(hfroz _ _ hgW hng).trans i2.f5,(hfroz _ _ hgW hng).trans i2.f7,(hfroz _ _ hgW hng).trans i2.f8⟩
   obtain ⟨c,_,e1,_⟩:=owns_block i3 e
   omega
  have hR4:=hR7.set7 (.slice (some ⟨g',0,none⟩) (pre.length + 1) cap')
  have hP4:(w7.setCell ⟨g,7,none⟩ (.slice (some ⟨g',0,none⟩) (pre.length + 1) cap')).cell? ⟨w.heap.size,0,none⟩=some (.pointer (some ⟨g,0,none⟩)):=(cO _ ⟨_,_,_⟩ ⟨_,_,_⟩ _ (by intro e;injection e;omega)).trans (hcell _ _ _ hnP i1)
  have hnBx:Al'.map (fun a=>a.block) ≠ some Bx:=h5
  have hq4:(w7.setCell ⟨g,7,none⟩ (.slice (some ⟨g',0,none⟩) (pre.length + 1) cap')).cell? ⟨Bx,0,none⟩=some (.int .u64 (o.a:Nat)):=(cO _ ⟨_,_,_⟩ ⟨_,_,_⟩ _ (by intro e;injection e;omega)).trans (hcell _ _ _ hnBx q0)
  have hbl:w.heap.size + 1 < W.heap.size:=by omega
  have hN4:∀ j,j < h.ws.length → (w7.setCell ⟨g,7,none⟩ (.slice (some ⟨g',0,none⟩) (pre.length + 1) cap')).cell? ⟨w.heap.size + 1,j,none⟩=some (.int .i64 (lastP (addrs (pre.map (·.1))) j:Nat))∧(w7.setCell ⟨g,7,none⟩ (.slice (some ⟨g',0,none⟩) (pre.length + 1) cap')).frozen? ⟨w.heap.size + 1,j,none⟩=false:=fun j hj=>
   ⟨(cO _ ⟨_,_,_⟩ ⟨_,_,_⟩ _ (by intro e;injection e;omega)).trans (hcell _ _ _ hnb (i4 j hj).1),(World.frozen?_setCell _ _ _ _).trans ((hfroz _ _ hbl hnb).trans (i4 j hj).2)⟩
  clear q0 q1 q2 q3 q4 q5
  gi_wp2_with fail
  refine wpIn_mono ((collectR5 _ w.heap.size g Bx (w.heap.size + 1) o.a (pre.length + 1) cap' h.ws.length (A7:=some ⟨g',0,none⟩) _ _ _ _ _ _ _ _ _ _ _ _ _ _ _ _ _ _ _ _ _ _ _ _ _ _ _ _ _ _ _ _ _ _ _ _ _ _ _ _ _ _ _ _ rfl hP4 hR4.c7 hR4.c8 hq4 (hN4 o.a hoa).1 (hN4 o.a hoa).2 hoa hw (by omega) (by omega) (by omega)).wpIn (noDefer_of rfl) (onlyN_out _) 5 l _) ?_
  intro e a' w5 hO5
  obtain ⟨rfl,hw5,z0,z1,z2,z3,z4,z5,z6,z7,z8,z9,z10,z11,rfl⟩:=hO5.ends
  have HW5:=Lib.hid hw5
  clear hw5
  gi_wp2
  have hw5:=HW5.out
  have k1:w.heap.size + 3 ≤ g':=by
   obtain ⟨_,_,k,_⟩:=owns_block (q:=g') hown7 rfl
   exact k
  have hsW:w.heap.size + 3 ≤ W.heap.size:=i5
  have e7:w7.heap[w.heap.size + 1]?=some (.cells cs 3 (0,0)):=(hlow _ hbl hnb).trans i7
  have k5:Rc w5 g v h 0 1 (.slice (some ⟨g',0,none⟩) (pre.length + 1) cap') (.slice (some ⟨w.heap.size + 1,0,none⟩) h.ws.length h.ws.length):=by
   rw [hw5]
   exact (hR4.far (by omega) _).later (Below.drew (Below.refl _ _))
  have hh5:∀ k,k ≠ g → k ≠ w.heap.size + 1 → w5.heap[k]?=w7.heap[k]?:=fun k e1 e2=>by
   rw [hw5]
   show (World.setCell _ _ _).heap[k]?=_
   rw [heap_setCell_far _ _ e2,heap_setCell_far _ _ e1]
  have hsz5:w5.heap.size=w7.heap.size:=by
   rw [hw5]
   show (World.setCell _ _ _).heap.size=_
   rw [World.size_setCell,World.size_setCell]
  have hos:w5.os=w7.os∧w5.tape=w7.tape∧w5.output=w7.output:=by rw [hw5];exact ⟨rfl,rfl,rfl⟩
  refine ⟨(keepsFrom_row hg7 (fun q e=>?_)).trans ?_,⟨by have:=hg7.size;omega,fun a u ha hu=>?_,fun k c ty ht hkg hk=>?_⟩,some ⟨g',0,none⟩,cap',?_,?_,?_,fun j hj=>⟨?_,?_⟩,by have:=hg7.size;omega,?_,cs.setIfInBounds o.a (.int .i64 ((pre.length + 1:Nat):Int)),?_⟩
  ·obtain ⟨c,_,_,e2⟩:=owns_block i3 e
   exact ⟨_,e2,rfl⟩
  ·rw [hw5]
   exact (((KeepsOthers.setCell _ _ _).from _).trans ((KeepsOthers.setCell _ _ _).from _)).trans ⟨Nat.le_refl _,fun _ _ _ h _=>h⟩
  ·have hak:Al'.map (fun a=>a.block) ≠ some a.block:=fun e=>by
    obtain ⟨c,_,e1,_⟩:=owns_block i3 e
    omega
   have hab:=World.block_lt_of_cell? W a hu
   exact (World.cell?_of_block ((hh5 a.block (by omega) (by omega)).trans (hlow _ hab hak))).trans hu
  ·have hkb:k ≠ w.heap.size + 1:=by
    rintro rfl
    rw [i7] at hk
    injection hk with hk
    injection hk with _ hk _
    rcases ht with rfl | rfl <;> cases hk
   have hkA:Al'.map (fun a=>a.block) ≠ some k:=fun e=>by
    obtain ⟨c,_,_,e2⟩:=owns_block i3 e
    rw [hk] at e2
    injection e2 with e2
    injection e2 with _ e2 _
    rcases ht with rfl | rfl <;> cases e2
   exact (hh5 k hkg hkb).trans ((hlow k (heap_lt hk) hkA).trans hk)
  ·rw [hw5,World.cell?_drew]
   exact (cO _ ⟨_,_,_⟩ ⟨_,_,_⟩ _ (by intro e;injection e;omega)).trans hP4
  ·rw [List.length_append]
   exact k5
  ·have k3:w5.ownsRow (w.heap.size + 3) 161 6 (.slice (some ⟨g',0,none⟩) (pre.length + 1) cap') (pre.length + 1) (flat6 (pre.map (·.1)) ++ cells6 o):=by
    rw [hw5]
    exact ((hown7.kept (grown_setg _ _ _ _) (.inr (by simp [Value.ownBlock];omega))).kept (grown_setg _ _ _ _) (.inr (by simp [Value.ownBlock];omega))).drew
   rw [List.length_append,List.map_append,flat6_app]
   simpa [flat6] using k3
  ·have hsn:lastP (addrs ((pre ++ [(⟨o,ho⟩:CurO h)]).map (·.1))) j=if o.a=j then pre.length + 1 else lastP (addrs (pre.map (·.1))) j:=by
    have:=lastP_snoc (addrs (pre.map (·.1))) o.a j
    simpa [addrs] using this
   rw [hsn,hw5,World.cell?_drew]
   by_cases e:o.a=j
   ·subst e
    rw [if_pos rfl]
    exact World.cell?_setCell_same _ _ _ (hN4 o.a hj).1
   ·rw [if_neg e]
    exact (cO _ ⟨_,_,_⟩ ⟨_,_,_⟩ _ (by intro e';injection e';omega)).trans (hN4 j hj).1
  ·rw [hw5]
   exact (World.frozen?_setCell _ _ _ _).trans (hN4 j hj).2
  ·refine ⟨hos.1.trans (hg7.os.trans i6.os),hos.2.1.trans (hg7.tape.trans i6.tape),hos.2.2.trans (hg7.output.trans i6.output),by have:=hg7.size;omega,fun k hk hkn=>?_⟩
   have hkg:k ≠ g:=fun e=>hkn (by rw [e])
   have hkA:Al'.map (fun a=>a.block) ≠ some k:=fun e=>by
    obtain ⟨c,_,e1,_⟩:=owns_block i3 e
    omega
   exact (hh5 k hkg (by omega)).trans ((hlow k (by omega) hkA).trans (i6.block k hk hkn))
  ·rw [hw5]
   exact heap_setCell_same ((heap_setCell_far _ _ (by show w.heap.size + 1 ≠ g;omega)).trans e7) _
 case done=>
  rintro D ys W hD hS hI hK
  gi_wp2
  obtain ⟨Al,cl,i1,i2,i3,i4,i5,i6,cs,i7⟩:=(collI_own w (w.heap.size + 3) g w.heap.size (w.heap.size + 1) v h W0.heap.size (by omega)).putObj (.deferred none) hI hD hK rfl
  have hlen:ys.length=(cursH h).length:=by rw [← hS,List.length_map]
  rw [hlen] at i2 i3
  rw [hS] at i3 i4
  refine ⟨by simp,.inl ⟨_,_,rfl,run_takeDeferred hK,_,results_none rfl _ _ _,rfl,⟨_,_,i2,⟨Al,cl,w.heap.size + 1,rfl,?_,rfl,by omega,by omega,fun j hj=>?_⟩,fun q hq=>?_⟩,i6⟩⟩
  ·obtain ⟨_,⟨e1,e2⟩ | ⟨q,cap2,cur,e1,e2,e3,_⟩⟩:=id i3
   ·injection e1 with e1
    exact .inl ⟨e1,e2⟩
   ·injection e1 with e1
    subst e1
    refine .inr ⟨q,0,rfl,by omega,heap_lt e3,fun j u hu=>?_⟩
    rw [Nat.zero_add,i3.cellAt j (by have:=(List.getElem?_eq_some_iff.1 hu).1;rw [flat6_len] at this;exact this)]
    exact hu
  ·rw [← lastP_hin HND.out HPO.out]
   exact (i4 j hj).1
  ·rcases hq with hq | hq
   ·have hq':Al.map (fun a=>a.block)=some q:=by cases Al <;> exact hq
    obtain ⟨_,_,e1,_⟩:=owns_block i3 hq'
    omega
   ·have:w.heap.size + 1=q:=by simpa [Value.ownBlock] using hq
    omega
 case stop=>
  rintro D c pre W _ _ h _
  exact h.elim
end Go.Proofs.YtafpkaifaccehaaGreatDoor
