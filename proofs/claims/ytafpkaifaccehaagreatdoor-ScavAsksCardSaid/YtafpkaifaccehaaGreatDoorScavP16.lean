/- Parts of the proof. -/
import Derived.Test.YtafpkaifaccehaaGreatDoorScavP15
import Derived.Deep.RegionHeld3
set_option maxRecDepth 100000
set_option linter.unusedVariables false
set_option linter.unusedSimpArgs false
namespace Go.Proofs.YtafpkaifaccehaaGreatDoor
open Go.RowKit
def FreshT (w:World) (n:Int) (ws:List Nat) (i why:Int) (e:Ending) (w':World):Prop:=
 ∃ A cap,e=.returned (.tuple #[.agg #[.int .i64 n,.slice A ws.length cap],.int .i64 i,.int .i64 why])∧Own w' w.heap.size A ws∧Below w.heap.size w w'
section
variable {n:Int} {A:Option Addr} {ws:List Nat} {w:World} (cap:Nat)
theorem take_out (c:Int) (hr:Row w w.heap.size A ws) (h:Right n ws) (hc:c < 1) :
  Calls Tryz.prog 89 #[.agg #[.int .i64 n,.slice A ws.length cap],.int .i64 c] w fun e w'=>FreshT w n ws 0 1 e w':=by
 have hR:=Lib.hid h
 clear h
 go_enter Tryz.func89,Tryz.ntmps89
 go_wp2_with fail
 go_at_call 148
 refine (pview_ok _ (hr.later bX) hR.out).mono ?_
 rintro e w1 ⟨rfl,hb_w1⟩
 obtain ⟨hc_w1,hf_w1⟩:=bcell hb_w1;have hz_w1_w_0:w.heap.size < w1.heap.size:=lY hb_w1.size;have hz_w1_w_1:w.heap.size + 1 < w1.heap.size:=lY hb_w1.size;have hs_w1:=hb_w1.size;(try simp only [zZ] at hs_w1)
 go_wp2_with fail
 go_at_call 168
 refine (run_out cap c (hr.later bX) hR.out hc).mono ?_
 rintro e w2 ⟨rfl,hb_w2⟩
 obtain ⟨hc_w2,hf_w2⟩:=bcell hb_w2;have hz_w2_w_0:w.heap.size < w2.heap.size:=lY hb_w2.size;have hz_w2_w_1:w.heap.size + 1 < w2.heap.size:=lY hb_w2.size;have hz_w2_w1_0:w1.heap.size < w2.heap.size:=lY hb_w2.size;have hs_w2:=hb_w2.size;(try simp only [zZ] at hs_w2)
 go_wp2_with fail
 go_at_call 169
 refine (ptwin_ok cap (hr.later bX) hR.out).mono ?_
 rintro e w3 ⟨A3,cap3,rfl,ho3,hb_w3⟩
 obtain ⟨hc_w3,hf_w3⟩:=bcell hb_w3;have hz_w3_w_0:w.heap.size < w3.heap.size:=lY hb_w3.size;have hz_w3_w_1:w.heap.size + 1 < w3.heap.size:=lY hb_w3.size;have hz_w3_w1_0:w1.heap.size < w3.heap.size:=lY hb_w3.size;have hs_w3:=hb_w3.size;(try simp only [zZ] at hs_w3)
 go_wp2
 have k0:w3.cell? ⟨w.heap.size + 1,0,none⟩=_:=(hc_w3 _ _ lX).trans ((hc_w2 _ _ lX).trans ((World.cell?_alloc_lt _ _ ⟨_,_,_⟩ lX).trans ((hc_w1 _ _ lX).trans (by simp [go_sem];rfl))))
 have k1:w3.cell? ⟨w.heap.size + 1,1,none⟩=_:=(hc_w3 _ _ lX).trans ((hc_w2 _ _ lX).trans ((World.cell?_alloc_lt _ _ ⟨_,_,_⟩ lX).trans ((hc_w1 _ _ lX).trans (by simp [go_sem];rfl))))
 exact bodyPost_ret (res_pages3 rfl rfl (set_two _ _ k0 k1).1 (set_two _ _ k0 k1).2) rfl ⟨A3,cap3,rfl,(ho3.two (g:=w.heap.size + 1) lX).mono lX,bX⟩
theorem take_full (c:Int) (hr:Row w w.heap.size A ws) (h:Right n ws) (hc:1 ≤ c) (h63:c ≤ 9223372036854775807) (hp:RunP ws c n 0 3) :
  Calls Tryz.prog 89 #[.agg #[.int .i64 n,.slice A ws.length cap],.int .i64 c] w fun e w'=>FreshT w n ws 0 6 e w':=by
 have hR:=Lib.hid h
 have hP:=Lib.hid hp
 clear h hp
 go_enter Tryz.func89,Tryz.ntmps89
 go_wp2_with fail
 go_at_call 148
 refine (pview_ok _ (hr.later bX) hR.out).mono ?_
 rintro e w1 ⟨rfl,hb_w1⟩
 obtain ⟨hc_w1,hf_w1⟩:=bcell hb_w1;have hz_w1_w_0:w.heap.size < w1.heap.size:=lY hb_w1.size;have hz_w1_w_1:w.heap.size + 1 < w1.heap.size:=lY hb_w1.size;have hs_w1:=hb_w1.size;(try simp only [zZ] at hs_w1)
 go_wp2_with fail
 go_at_call 168
 refine (bits_run_in cap c (hr.later bX) hR.out hc h63).mono ?_
 rintro e w2 ⟨h2,hb_w2⟩
 obtain ⟨hc_w2,hf_w2⟩:=bcell hb_w2;have hz_w2_w_0:w.heap.size < w2.heap.size:=lY hb_w2.size;have hz_w2_w_1:w.heap.size + 1 < w2.heap.size:=lY hb_w2.size;have hz_w2_w1_0:w1.heap.size < w2.heap.size:=lY hb_w2.size;have hs_w2:=hb_w2.size;(try simp only [zZ] at hs_w2)
 rw [h2.is (fun i why h=>h.one hP.out)]
 clear h2
 go_wp2_with fail
 go_at_call 169
 refine (ptwin_ok cap (hr.later bX) hR.out).mono ?_
 rintro e w3 ⟨A3,cap3,rfl,ho3,hb_w3⟩
 obtain ⟨hc_w3,hf_w3⟩:=bcell hb_w3;have hz_w3_w_0:w.heap.size < w3.heap.size:=lY hb_w3.size;have hz_w3_w_1:w.heap.size + 1 < w3.heap.size:=lY hb_w3.size;have hz_w3_w1_0:w1.heap.size < w3.heap.size:=lY hb_w3.size;have hs_w3:=hb_w3.size;(try simp only [zZ] at hs_w3)
 go_wp2
 have k0:w3.cell? ⟨w.heap.size + 1,0,none⟩=_:=(hc_w3 _ _ lX).trans ((hc_w2 _ _ lX).trans ((World.cell?_alloc_lt _ _ ⟨_,_,_⟩ lX).trans ((hc_w1 _ _ lX).trans (by simp [go_sem];rfl))))
 have k1:w3.cell? ⟨w.heap.size + 1,1,none⟩=_:=(hc_w3 _ _ lX).trans ((hc_w2 _ _ lX).trans ((World.cell?_alloc_lt _ _ ⟨_,_,_⟩ lX).trans ((hc_w1 _ _ lX).trans (by simp [go_sem];rfl))))
 exact bodyPost_ret (res_pages3 rfl rfl (set_two _ _ k0 k1).1 (set_two _ _ k0 k1).2) rfl ⟨A3,cap3,rfl,(ho3.two (g:=w.heap.size + 1) lX).mono lX,bX⟩
theorem take_fit (c i:Int) (hr:Row w w.heap.size A ws) (h:Right n ws) (hc:1 ≤ c) (h63:c ≤ 9223372036854775807) (hp:RunP ws c n i 0) :
  Calls Tryz.prog 89 #[.agg #[.int .i64 n,.slice A ws.length cap],.int .i64 c] w fun e w'=>FreshT w n (fillW ws i.toNat c.toNat true) i 0 e w':=by
 have hi:0 ≤ i∧i + c ≤ n:=by
  rcases hp.fit hc with ⟨_,h1,h2,_⟩ | ⟨h1,_⟩
  ·exact ⟨h1,h2⟩
  ·cases h1
 have hR:=Lib.hid h
 have hP:=Lib.hid hp
 have hI:=Lib.hid hi
 clear h hp hi
 go_enter Tryz.func89,Tryz.ntmps89
 go_wp2_with fail
 go_at_call 148
 refine (pview_ok _ (hr.later bX) hR.out).mono ?_
 rintro e w1 ⟨rfl,hb_w1⟩
 obtain ⟨hc_w1,hf_w1⟩:=bcell hb_w1;have hz_w1_w_0:w.heap.size < w1.heap.size:=lY hb_w1.size;have hz_w1_w_1:w.heap.size + 1 < w1.heap.size:=lY hb_w1.size;have hs_w1:=hb_w1.size;(try simp only [zZ] at hs_w1)
 go_wp2_with fail
 go_at_call 168
 refine (bits_run_in cap c (hr.later bX) hR.out hc h63).mono ?_
 rintro e w2 ⟨h2,hb_w2⟩
 obtain ⟨hc_w2,hf_w2⟩:=bcell hb_w2;have hz_w2_w_0:w.heap.size < w2.heap.size:=lY hb_w2.size;have hz_w2_w_1:w.heap.size + 1 < w2.heap.size:=lY hb_w2.size;have hz_w2_w1_0:w1.heap.size < w2.heap.size:=lY hb_w2.size;have hs_w2:=hb_w2.size;(try simp only [zZ] at hs_w2)
 rw [h2.is (fun i why h=>h.one hP.out)]
 clear h2
 go_wp2_with fail
 go_at_call 170
 refine (marked_in cap i c true (hr.later bX) hR.out hI.out.1 (by omega) (by have:=hI.out.2;omega)).mono ?_
 rintro e w3 ⟨A3,cap3,rfl,ho3,hb_w3⟩
 obtain ⟨hc_w3,hf_w3⟩:=bcell hb_w3;have hz_w3_w_0:w.heap.size < w3.heap.size:=lY hb_w3.size;have hz_w3_w_1:w.heap.size + 1 < w3.heap.size:=lY hb_w3.size;have hz_w3_w1_0:w1.heap.size < w3.heap.size:=lY hb_w3.size;have hs_w3:=hb_w3.size;(try simp only [zZ] at hs_w3)
 go_wp2
 have k0:w3.cell? ⟨w.heap.size + 1,0,none⟩=_:=(hc_w3 _ _ lX).trans ((hc_w2 _ _ lX).trans ((World.cell?_alloc_lt _ _ ⟨_,_,_⟩ lX).trans ((hc_w1 _ _ lX).trans (by simp [go_sem];rfl))))
 have k1:w3.cell? ⟨w.heap.size + 1,1,none⟩=_:=(hc_w3 _ _ lX).trans ((hc_w2 _ _ lX).trans ((World.cell?_alloc_lt _ _ ⟨_,_,_⟩ lX).trans ((hc_w1 _ _ lX).trans (by simp [go_sem];rfl))))
 exact bodyPost_ret (res_pages3 rfl rfl (set_two _ _ k0 k1).1 (set_two _ _ k0 k1).2) rfl ⟨A3,cap3,rfl,(ho3.two (g:=w.heap.size + 1) lX).mono lX,bX⟩
theorem give_ok (a c:Int) (hr:Row w w.heap.size A ws) (h:Right n ws) (h0:0 ≤ a) (h1:1 ≤ c) (h2:c ≤ n - a) (hi:∀ j:Nat,a ≤ j → (j:Int) < a + c → tb ws j=true) :
  Calls Tryz.prog 244 #[.agg #[.int .i64 n,.slice A ws.length cap],.int .i64 a,.int .i64 c] w fun e w'=>Fresh w n (fillW ws a.toNat c.toNat false) 0 e w':=by
 have hn:=h.1
 have hn2:=h.2.1
 have hR:=Lib.hid h
 have hI:decide (0 ≤ a∧1 ≤ c∧c ≤ n - a)=true:=decide_eq_true ⟨h0,h1,h2⟩
 have hX:=Lib.hid hi
 clear h hi
 go_enter Tryz.func244,Tryz.ntmps244
 go_wp2_with fail
 go_at_call 148
 refine (pview_ok _ (hr.later bX) hR.out).mono ?_
 rintro e w1 ⟨rfl,hb_w1⟩
 obtain ⟨hc_w1,hf_w1⟩:=bcell hb_w1;have hz_w1_w_0:w.heap.size < w1.heap.size:=lY hb_w1.size;have hz_w1_w_1:w.heap.size + 1 < w1.heap.size:=lY hb_w1.size;have hs_w1:=hb_w1.size;(try simp only [zZ] at hs_w1)
 go_wp2_with fail
 go_at_call 269
 refine (phas_any cap ws.length a c hn hn2 (by omega)).mono ?_
 rintro e w2 ⟨rfl,hb_w2⟩
 obtain ⟨hc_w2,hf_w2⟩:=bcell hb_w2;have hz_w2_w_0:w.heap.size < w2.heap.size:=lY hb_w2.size;have hz_w2_w_1:w.heap.size + 1 < w2.heap.size:=lY hb_w2.size;have hz_w2_w1_0:w1.heap.size < w2.heap.size:=lY hb_w2.size;have hs_w2:=hb_w2.size;(try simp only [zZ] at hs_w2)
 rw [hI]
 go_wp2_with fail
 go_at_call 149
 refine (pnext_any cap a false (hr.later bX) hR.out h0 (by omega)).mono ?_
 rintro e w3 ⟨h3,hb_w3⟩
 obtain ⟨hc_w3,hf_w3⟩:=bcell hb_w3;have hz_w3_w_0:w.heap.size < w3.heap.size:=lY hb_w3.size;have hz_w3_w_1:w.heap.size + 1 < w3.heap.size:=lY hb_w3.size;have hz_w3_w1_0:w1.heap.size < w3.heap.size:=lY hb_w3.size;have hs_w3:=hb_w3.size;(try simp only [zZ] at hs_w3)
 obtain ⟨t,rfl,t1,t2,t3,t4⟩:=h3
 have ht:¬ t < a + c:=by
  intro e
  have:=hX.out t.toNat (by omega) (by omega)
  rw [t4 (by omega)] at this
  cases this
 clear t3 t4
 have hd:decide (t < a + c)=false:=by simpa using ht
 go_wp2_with fail
 go_at_call 170
 refine (marked_in cap a c false (hr.later bX) hR.out h0 (by omega) h2).mono ?_
 rintro e w4 ⟨A4,cap4,rfl,ho4,hb_w4⟩
 obtain ⟨hc_w4,hf_w4⟩:=bcell hb_w4;have hz_w4_w_0:w.heap.size < w4.heap.size:=lY hb_w4.size;have hz_w4_w_1:w.heap.size + 1 < w4.heap.size:=lY hb_w4.size;have hz_w4_w1_0:w1.heap.size < w4.heap.size:=lY hb_w4.size;have hs_w4:=hb_w4.size;(try simp only [zZ] at hs_w4)
 go_wp2
 have k0:w4.cell? ⟨w.heap.size + 1,0,none⟩=_:=(hc_w4 _ _ lX).trans ((hc_w3 _ _ lX).trans ((hc_w2 _ _ lX).trans ((World.cell?_alloc_lt _ _ ⟨_,_,_⟩ lX).trans ((hc_w1 _ _ lX).trans (by simp [go_sem];rfl)))))
 have k1:w4.cell? ⟨w.heap.size + 1,1,none⟩=_:=(hc_w4 _ _ lX).trans ((hc_w3 _ _ lX).trans ((hc_w2 _ _ lX).trans ((World.cell?_alloc_lt _ _ ⟨_,_,_⟩ lX).trans ((hc_w1 _ _ lX).trans (by simp [go_sem];rfl)))))
 exact bodyPost_ret (res_pages2 rfl rfl (set_two _ _ k0 k1).1 (set_two _ _ k0 k1).2) rfl ⟨A4,cap4,rfl,(ho4.two (g:=w.heap.size + 1) lX).mono lX,bX⟩
end
def mkH (n:Int):Hp:=⟨List.replicate (n * 16).toNat 0,n,fillW (wordsN n) 0 1 true,[]⟩
def MakE (n:Int) (h:Hp) (y:Int):Prop:=(¬ (1 ≤ n∧n ≤ 1024)∧h=hp0∧y=1) ∨ ((1 ≤ n∧n ≤ 1024)∧h=mkH n∧y=0)
theorem MakE.ex (n:Int):∃ h y,MakE n h y:=by
 by_cases hn:1 ≤ n∧n ≤ 1024
 ·exact ⟨_,_,.inr ⟨hn,rfl,rfl⟩⟩
 ·exact ⟨_,_,.inl ⟨hn,rfl,rfl⟩⟩
theorem mk_run {n:Int} (h1:1 ≤ n):RunP (wordsN n) 1 n 0 0:=by
 refine .inl ⟨rfl,0,by omega,?_,fun j hj=>?_,by omega⟩
 ·simp [zs,wordsN,tb_zeros]
 ·obtain rfl:j=0:=by omega
  simp [zs]
theorem getD_zeros (k i:Nat):(List.replicate k 0).getD i 0=0:=by
 rw [List.getD_eq_getElem?_getD]
 by_cases h:i < k
 ·rw [List.getElem?_replicate,if_pos h];rfl
 ·rw [List.getElem?_replicate,if_neg h];rfl
theorem mkH_ok {n:Int} (h1:1 ≤ n) (h2:n ≤ 1024):OkH (mkH n):=by
 have hr:Right n (fillW (wordsN n) 0 1 true):=right_fillW (right_wordsN n (by omega) (by omega)) 0 1 true (by omega)
 have hl:(wordsN n).length=((n + 63) / 64).toNat:=by simp [wordsN]
 have htb:∀ i,tb (fillW (wordsN n) 0 1 true) i=decide (i=0):=fun i=>by
  rw [tb_fillW _ _ _ _ _ (by rw [hl];omega)]
  by_cases e:i=0
  ·rw [if_pos (by omega),e];rfl
  ·rw [if_neg (by omega)]
   simp [wordsN,tb_zeros,e]
 have hF:Framed (mkH n):=⟨by simp [mkH];omega,hr,(⟨by simp,fun i hi=>by simp at hi,fun i hi=>by simp at hi⟩:OkL []),by show 0 < n;omega,by simp [mkH];omega⟩
 refine ⟨hF,⟨fun j hj=>by simp [mkH] at hj,fun i hi=>?_⟩,⟨fun i hi hz q hq=>getD_zeros _ _,fun j hj=>by simp [mkH] at hj⟩,?_⟩
 ·show tb (fillW (wordsN n) 0 1 true) i=true ↔ _
  rw [htb]
  unfold Has
  simp [mkH]
 ·exact (linked_iff hF.spans).2 fun j k hj=>by simp [mkH] at hj
set_option maxHeartbeats 2000000 in
theorem zmakeH_any (w:World) (n:Int) (h':Hp) (y:Int) (hE:MakE n h' y):Calls Tryz.prog 17 #[.int .i64 n] w fun e w'=>FreshH w h' y e w':=by
 have hR0:=B4.new w (.slice none 0 0) (.int .i64 0) (.slice none 0 0) (.slice none 0 0) 31
 rcases hE with ⟨hn,rfl,rfl⟩ | ⟨⟨h1,h2⟩,rfl,rfl⟩
 ·unfold FreshH hpV hpv
  by_cases h1:n < 1
  ·have d1:decide (n < 1)=true:=decide_eq_true h1
   clear hn h1
   go_enter Tryz.func17,Tryz.ntmps17
   go_wp2
   exact bodyPost_ret (res_hp2 rfl rfl hR0) rfl ⟨hv0,rfl,OwnsH.zero _ _,bX⟩
  ·have d1:decide (n < 1)=false:=decide_eq_false h1
   have d2:decide (1024 < n)=true:=decide_eq_true (by omega)
   clear hn h1
   go_enter Tryz.func17,Tryz.ntmps17
   go_wp2
   exact bodyPost_ret (res_hp2 rfl rfl hR0) rfl ⟨hv0,rfl,OwnsH.zero _ _,bX⟩
 ·have d1:decide (n < 1)=false:=decide_eq_false (by omega)
  have d2:decide (1024 < n)=false:=decide_eq_false (by omega)
  have hwm:IntKind.i64.wrap (n * 16)=n * 16:=by rw [IntKind.wrap_i64];omega
  have HA:=Lib.hid fun (w:World)=>amake_ok (n * 16) w (by omega) (by omega)
  have HP:=Lib.hid fun (w:World)=>pmake_ok n w (by omega) (by omega)
  have HT:=Lib.hid fun (w:World) (A:Option Addr) (cap:Nat) (hr:Row w w.heap.size A (wordsN n))=>take_fit (w:=w) (n:=n) (A:=A) (ws:=wordsN n) cap 1 0 hr (right_wordsN n (by omega) (by omega)) (by omega) (by omega) (mk_run h1)
  unfold FreshA at HA
  unfold Fresh at HP
  unfold FreshT at HT
  obtain ⟨z,hz⟩:∃ z,Hid (List.replicate (n * 16).toNat 0=z):=⟨_,Lib.hid rfl⟩
  obtain ⟨p,hp⟩:∃ p,Hid (wordsN n=p):=⟨_,Lib.hid rfl⟩
  unfold FreshH hpV hpv mkH
  simp only
  rw [hz.out] at HA ⊢
  rw [hp.out] at HP HT ⊢
  clear h1 h2
  go_enter Tryz.func17,Tryz.ntmps17
  go_wp2_with fail
  try simp only [hwm]
  go_at_call 87
  refine (HA.out _).mono ?_
  rintro e w1 ⟨A1,c1,rfl,⟨oA,_⟩,hb_w1⟩
  have hR1:=hR0.later hb_w1
  have hb1:Below w.heap.size w w1:=bX
  have hs1:=hb_w1.size
  rw [World.size_alloc] at hs1
  go_wp2_with fail
  go_at_call 88
  refine (HP.out _).mono ?_
  rintro e w2 ⟨P2,c2,rfl,oP,hb_w2⟩
  have hA0:(w1.alloc (.cells #[.slice A1 z.length c1] 24)).cell? ⟨w1.heap.size,0,none⟩=some (.slice A1 z.length c1):=by simp [go_sem]
  have ha1:Below w1.heap.size w1 (w1.alloc (.cells #[.slice A1 z.length c1] 24)):=Below.alloc (Below.refl _ _) (Nat.le_refl _) _
  have hR2:=(hR1.later ha1).later hb_w2
  have oA2:=(oA.later ha1).later hb_w2
  have hA2:w2.cell? ⟨w1.heap.size,0,none⟩=some (.slice A1 z.length c1):=(hb_w2.cell (p:=⟨w1.heap.size,0,none⟩) (by rw [World.size_alloc];exact Nat.lt_succ_self _)).trans hA0
  have hs2:=hb_w2.size
  rw [World.size_alloc] at hs2
  have hb2:Below w.heap.size w w2:=(hb1.alloc hb1.size _).trans (hb_w2.mono (by rw [World.size_alloc];omega))
  have hl12:w1.heap.size < w2.heap.size:=by omega
  have hApA:=oA2.apt_lt (b:=w2.heap.size) (Nat.le_refl _)
  have ha2:Below w2.heap.size w2 (w2.alloc (.cells #[.int .i64 n,.slice P2 p.length c2] 28)):=Below.alloc (Below.refl _ _) (Nat.le_refl _) _
  have hP2:=Two.new w2 (.int .i64 n) (.slice P2 p.length c2) 28
  clear hb_w1 hb_w2 oA hR1 hA0 ha1 hb1
  go_wp2_with fail
  go_at_call 89
  refine (HT.out _ _ _ (oP.row.later ha2)).mono ?_
  rintro e w3 ⟨P3,c3,rfl,oP3,hb_w3⟩
  have hR3:=(hR2.later ha2).later hb_w3
  have oA3:=(oA2.later ha2).later hb_w3
  have hA3:w3.cell? ⟨w1.heap.size,0,none⟩=some (.slice A1 z.length c1):=(hb_w3.cell (p:=⟨w1.heap.size,0,none⟩) (by rw [World.size_alloc];exact Nat.lt_succ_of_lt hl12)).trans ((ha2.cell (p:=⟨w1.heap.size,0,none⟩) hl12).trans hA2)
  have hP3:=hP2.below hb_w3 (by rw [World.size_alloc];exact Nat.lt_succ_self _)
  have hlA:=World.block_lt_of_cell? _ _ hA2
  have hlR:=hR2.lt
  have hs3:=hb_w3.size
  rw [World.size_alloc] at hs3
  have hb3:Below w.heap.size w w3:=(hb2.alloc hb2.size _).trans (hb_w3.mono (by rw [World.size_alloc];have:=hb2.size;omega))
  have hlen:(fillW p (Int.toNat 0) (Int.toNat 1) true).length=p.length:=length_fillW _ _ _ _
  rw [hlen]
  obtain ⟨p0,p1,pf⟩:=id hP3
  have pf0:=pf 0
  have pf1:=pf 1
  have hR4:=(hR3.far (p:=⟨w2.heap.size,0,none⟩) (by show w2.heap.size ≠ w.heap.size;omega) (.int .i64 n)).far (p:=⟨w2.heap.size,1,none⟩) (by show w2.heap.size ≠ w.heap.size;omega) (.slice P3 p.length c3)
  have hP4:=hP3.set_ (.int .i64 n) (.slice P3 p.length c3)
  have hA4:((w3.setCell ⟨w2.heap.size,0,none⟩ (.int .i64 n)).setCell ⟨w2.heap.size,1,none⟩ (.slice P3 p.length c3)).cell? ⟨w1.heap.size,0,none⟩=some (.slice A1 z.length c1):=
   (cO _ ⟨w2.heap.size,1,none⟩ ⟨w1.heap.size,0,none⟩ _ (by intro e;injection e;omega)).trans ((cO _ ⟨w2.heap.size,0,none⟩ ⟨w1.heap.size,0,none⟩ _ (by intro e;injection e;omega)).trans hA3)
  have oA4:=(oA3.oth (p:=⟨w2.heap.size,0,none⟩) hApA (.int .i64 n)).oth (p:=⟨w2.heap.size,1,none⟩) hApA (.slice P3 p.length c3)
  have hw0:=hb2.size
  have oP4:=(oP3.far (p:=⟨w2.heap.size,0,none⟩) (.inl (by rw [World.size_alloc];exact Nat.lt_succ_self _)) (.int .i64 n)).far (p:=⟨w2.heap.size,1,none⟩) (.inl (by rw [World.size_alloc];exact Nat.lt_succ_self _)) (.slice P3 p.length c3)
  have hO4:OwnsH ((w3.setCell ⟨w2.heap.size,0,none⟩ (.int .i64 n)).setCell ⟨w2.heap.size,1,none⟩ (.slice P3 p.length c3)) (w.heap.size + 1) ⟨A1,c1,P3,c3,none,0⟩ ⟨z,n,fillW p 0 1 true,[]⟩:=⟨oA4.mono (by rw [World.size_alloc];exact Nat.le_refl _),oP4.mono (by rw [World.size_alloc];omega),[],rfl,OwnsS.nil _ _⟩
  have hb4:Below w.heap.size w ((w3.setCell ⟨w2.heap.size,0,none⟩ (.int .i64 n)).setCell ⟨w2.heap.size,1,none⟩ (.slice P3 p.length c3)):=(hb3.setCell (p:=⟨w2.heap.size,0,none⟩) hw0 _).setCell (p:=⟨w2.heap.size,1,none⟩) hw0 _
  have hF:=hR4.all (.slice A1 z.length c1) (.int .i64 n) (.slice P3 p.length c3) (.slice none 0 0)
  have hO5:=hO4.all (b:=w.heap.size) (by omega) (.slice A1 z.length c1) (.int .i64 n) (.slice P3 p.length c3) (.slice none 0 0)
  have hb5:=below_all hb4 (b:=w.heap.size) (Nat.le_refl _) (.slice A1 z.length c1) (.int .i64 n) (.slice P3 p.length c3) (.slice none 0 0)
  obtain ⟨q0,q1,qf⟩:=id hP4
  obtain ⟨r0,r1,r2,r3,z0,z1,z2,z3⟩:=id hR4
  clear hR3 hP3 hA3 hb_w3 hR2 hP2 hA2 ha2
  go_wp2
  exact bodyPost_ret (res_hp2 rfl rfl hF) rfl ⟨⟨A1,c1,P3,c3,none,0⟩,by rw [length_fillW];rfl,hO5.mono (by omega),hb5⟩
set_option maxHeartbeats 4000000 in
theorem zplace_any {w:World} {B b:Nat} {v:Hv} {h:Hp} (m:WB w B b v h) (hok:OkL h.l) (hw:h.ws.length ≤ 16384) (i k:Nat) (hi:i < h.l.length) (hk:k < slN (nth h.l i)) (hp:slA (nth h.l i) k < h.ws.length) (x:Nat) (hx:x < W64) (bl:Bool) :
  Calls Tryz.prog 77 #[.pointer (some ⟨b,0,none⟩),.int .i64 (i:Nat),.int .i64 (k:Nat),.int .u64 (x:Nat),.bool bl] w fun e w'=>e=.returned (.int .u64 ((slA (nth h.l i) k:Nat):Int))∧(∃ v',WB w' B b v' ⟨h.ws.set (slA (nth h.l i) k) x,h.n,h.us,h.l.set i (plcD (nth h.l i) k bl)⟩)∧Below B w w':=by
 obtain ⟨g,A,ca,M,cm,hV,hgB,hgl,hbg,c8,oA,oM,fz,fc,hc0⟩:=m.span hi
 have hle:=m.le
 have hbl:=m.lt
 have ok:=hok.at_ hi
 have hN:=ok.slK
 have han:=ok.an
 have hmn:=ok.mn
 have hl256:=hok.1
 have hpl:=ok.placed
 have hsz:=ok.sized.slots
 unfold Placed at hpl
 obtain ⟨b0,b1,b2,b3,f0,f1,f2,f3⟩:=id m.box
 rw [hV] at b3
 obtain ⟨d,hd⟩:∃ d,Hid (nth h.l i=d):=⟨_,Lib.hid rfl⟩
 have okp:=ok.plc hk bl
 have hslp:slN (plcD (nth h.l i) k bl)=slN (nth h.l i):=rfl
 have e3:=okp.slA_eq (k:=k) hk
 have hAE:=Lib.hid (show AddrE (plcD (nth h.l i) k bl) (k:Int) ((slA (nth h.l i) k:Nat):Int) 0 from .inl ⟨okp,by omega,by show (k:Int) < slotsOf (nth h.l i).z;omega,e3.1,rfl⟩)
 obtain ⟨a,ha⟩:∃ a,Hid (slA (nth h.l i) k=a):=⟨_,Lib.hid rfl⟩
 rw [ha.out] at hAE hp ⊢
 have HPA:=Lib.hid fun (w:World) (hr:Row w w.heap.size A (nth h.l i).aw)=>put_in (w:=w) (N:=(nth h.l i).an) (A:=A) (ws:=(nth h.l i).aw) ca true (k:Int) hr ok.a (by omega) (by omega)
 have HPM:=Lib.hid fun (w:World) (cap:Nat) (A:Option Addr) (hr:Row w w.heap.size A (nth h.l i).mw)=>put_in (w:=w) (N:=(nth h.l i).mn) (A:=A) (ws:=(nth h.l i).mw) cap bl (k:Int) hr ok.m (by omega) (by omega)
 have HAD:=Lib.hid fun (w:World) (A M:Option Addr) (ca cm:Nat) hA hM=>sAddr_any (w:=w) (d:=plcD (nth h.l i) k bl) (A:=A) (M:=M) ca cm hA hM (k:Int) (a:Nat) 0 hAE.out
 rw [Int.toNat_natCast] at HPA HPM
 have hla:=ok.aw
 have hlm:=ok.mw
 have HM:=Lib.hid m
 have HHd:=Lib.hid hd.out
 rw [hd.out] at HPA HPM HAD c8 oA oM hla hlm ⊢
 obtain ⟨df,dp,dz,dan,daw,dmn,dmw,ds⟩:=d
 unfold Fresh at HPA HPM
 unfold plcD spv at HAD
 simp only at HPA HPM HAD oA oM hla hlm
 obtain ⟨c0,c1,c2,c3,c4,c5,c6,c7⟩:=id c8
 simp only at c0 c1 c2 c3 c4 c5 c6 c7
 have g3:=fz (i * 8 + 3)
 have g4:=fz (i * 8 + 4)
 have g5:=fz (i * 8 + 5)
 have g6:=fz (i * 8 + 6)
 have HLA:=Lib.hid hla
 have HLM:=Lib.hid hlm
 clear m ok hN han hmn hpl hsz okp hslp e3 c8 fz hAE hok hla hlm
 have i0:(0:Int) ≤ (i:Int):=by omega
 have i1:(i:Int) < (h.l.length:Int):=by omega
 have hrow:=oA.row
 go_enter Tryz.func77,Tryz.ntmps77
 go_wp2_with fail
 go_at_call 123
 refine (HPA.out _ hrow).mono ?_
 rintro e w1 ⟨A1,ca1,rfl,o1,hb_w1⟩
 have hm1:=HM.out.later hb_w1
 have hs1:=hb_w1.size
 have p3:w1.cell? ⟨g,i * 8 + 3,none⟩=some (.int .i64 dan):=(hb_w1.cell (p:=⟨g,i * 8 + 3,none⟩) hgl).trans c3
 have p4:w1.cell? ⟨g,i * 8 + 4,none⟩=some (.slice A daw.length ca):=(hb_w1.cell (p:=⟨g,i * 8 + 4,none⟩) hgl).trans c4
 have q3:w1.frozen? ⟨g,i * 8 + 3,none⟩=false:=((bcell hb_w1).2 _ _ hgl).trans g3
 have q4:w1.frozen? ⟨g,i * 8 + 4,none⟩=false:=((bcell hb_w1).2 _ _ hgl).trans g4
 have p5:w1.cell? ⟨g,i * 8 + 5,none⟩=some (.int .i64 dmn):=(hb_w1.cell (p:=⟨g,i * 8 + 5,none⟩) hgl).trans c5
 have p6:w1.cell? ⟨g,i * 8 + 6,none⟩=some (.slice M dmw.length cm):=(hb_w1.cell (p:=⟨g,i * 8 + 6,none⟩) hgl).trans c6
 have q5:w1.frozen? ⟨g,i * 8 + 5,none⟩=false:=((bcell hb_w1).2 _ _ hgl).trans g5
 have q6:w1.frozen? ⟨g,i * 8 + 6,none⟩=false:=((bcell hb_w1).2 _ _ hgl).trans g6
 have hm2:WB ((w1.setCell ⟨g,i * 8 + 3,none⟩ (.int .i64 dan)).setCell ⟨g,i * 8 + 3 + 1,none⟩ (.slice A1 (putW daw k true).length ca1)) B b v (setL h i ⟨df,dp,dz,dan,putW daw k true,dmn,dmw,ds⟩):=by
  have:=hm1.setL_ hV hi (ca':=ca1) (o1.mono (B':=B) (by omega)) (o1.apt hbl) (o1.apt hgl) (by have:=HLA.out;rw [length_putW];omega)
  rw [HHd.out] at this
  exact this
 have hb2:Below B w ((w1.setCell ⟨g,i * 8 + 3,none⟩ (.int .i64 dan)).setCell ⟨g,i * 8 + 3 + 1,none⟩ (.slice A1 (putW daw k true).length ca1)):=((hb_w1.mono (by omega)).setCell (p:=⟨g,i * 8 + 3,none⟩) hgB _).setCell (p:=⟨g,i * 8 + 3 + 1,none⟩) hgB _
 have hsW:w1.heap.size ≤ ((w1.setCell ⟨g,i * 8 + 3,none⟩ (.int .i64 dan)).setCell ⟨g,i * 8 + 3 + 1,none⟩ (.slice A1 (putW daw k true).length ca1)).heap.size:=by simp only [zS];exact Nat.le_refl _
 have hc00:=hc0
 have hAg:=oM.apt_span hc00
 have oM2:Own ((w1.setCell ⟨g,i * 8 + 3,none⟩ (.int .i64 dan)).setCell ⟨g,i * 8 + 3 + 1,none⟩ (.slice A1 (putW daw k true).length ca1)) B M dmw:=((oM.later hb_w1).oth (p:=⟨g,i * 8 + 3,none⟩) hAg _).oth (p:=⟨g,i * 8 + 3 + 1,none⟩) hAg _
 have P5:((w1.setCell ⟨g,i * 8 + 3,none⟩ (.int .i64 dan)).setCell ⟨g,i * 8 + 3 + 1,none⟩ (.slice A1 (putW daw k true).length ca1)).cell? ⟨g,i * 8 + 5,none⟩=some (.int .i64 dmn):=(cO _ ⟨g,i * 8 + 3 + 1,none⟩ ⟨g,i * 8 + 5,none⟩ _ (by intro e;injection e;omega)).trans ((cO _ ⟨g,i * 8 + 3,none⟩ ⟨g,i * 8 + 5,none⟩ _ (by intro e;injection e;omega)).trans p5)
 have P6:((w1.setCell ⟨g,i * 8 + 3,none⟩ (.int .i64 dan)).setCell ⟨g,i * 8 + 3 + 1,none⟩ (.slice A1 (putW daw k true).length ca1)).cell? ⟨g,i * 8 + 6,none⟩=some (.slice M dmw.length cm):=(cO _ ⟨g,i * 8 + 3 + 1,none⟩ ⟨g,i * 8 + 6,none⟩ _ (by intro e;injection e;omega)).trans ((cO _ ⟨g,i * 8 + 3,none⟩ ⟨g,i * 8 + 6,none⟩ _ (by intro e;injection e;omega)).trans p6)
 have Q5:((w1.setCell ⟨g,i * 8 + 3,none⟩ (.int .i64 dan)).setCell ⟨g,i * 8 + 3 + 1,none⟩ (.slice A1 (putW daw k true).length ca1)).frozen? ⟨g,i * 8 + 5,none⟩=false:=by simp only [World.frozen?_setCell];exact q5
 have Q6:((w1.setCell ⟨g,i * 8 + 3,none⟩ (.int .i64 dan)).setCell ⟨g,i * 8 + 3 + 1,none⟩ (.slice A1 (putW daw k true).length ca1)).frozen? ⟨g,i * 8 + 6,none⟩=false:=by simp only [World.frozen?_setCell];exact q6
 clear b0 b1 b2 b3 f0 f1 f2 f3 c0 c1 c2 c3 c4 c5 c6 c7 g3 g4 g5 g6
 go_wp2_with fail
 clear p3 p4 p5 p6 q3 q4 q5 q6 hm1
 generalize ((w1.setCell ⟨g,i * 8 + 3,none⟩ (.int .i64 dan)).setCell ⟨g,i * 8 + 3 + 1,none⟩ (.slice A1 (putW daw k true).length ca1))=W2 at *
 have hbl2:=hm2.lt
 have hgl2:g < W2.heap.size:=by omega
 go_at_call 123
 refine (HPM.out _ cm M oM2.row).mono ?_
 rintro e w3 ⟨M3,cm3,rfl,o3,hb_w3⟩
 have hm3:=hm2.later hb_w3
 have hs3:=hb_w3.size
 have hi2:i < (setL h i ⟨df,dp,dz,dan,putW daw k true,dmn,dmw,ds⟩).l.length:=by simpa [setL] using hi
 have en:nth (setL h i ⟨df,dp,dz,dan,putW daw k true,dmn,dmw,ds⟩).l i=⟨df,dp,dz,dan,putW daw k true,dmn,dmw,ds⟩:=by show nth (h.l.set i _) i=_;rw [nth_set _ _ _ _ hi,if_pos rfl]
 have p5:w3.cell? ⟨g,i * 8 + 5,none⟩=some (.int .i64 dmn):=(hb_w3.cell (p:=⟨g,i * 8 + 5,none⟩) hgl2).trans P5
 have p6:w3.cell? ⟨g,i * 8 + 6,none⟩=some (.slice M dmw.length cm):=(hb_w3.cell (p:=⟨g,i * 8 + 6,none⟩) hgl2).trans P6
 have q5:w3.frozen? ⟨g,i * 8 + 5,none⟩=false:=((bcell hb_w3).2 _ _ hgl2).trans Q5
 have q6:w3.frozen? ⟨g,i * 8 + 6,none⟩=false:=((bcell hb_w3).2 _ _ hgl2).trans Q6
 have hm4:WB ((w3.setCell ⟨g,i * 8 + 5,none⟩ (.int .i64 dmn)).setCell ⟨g,i * 8 + 5 + 1,none⟩ (.slice M3 (putW dmw k bl).length cm3)) B b v (setL h i ⟨df,dp,dz,dan,putW daw k true,dmn,putW dmw k bl,ds⟩):=by
  have:=hm3.setM hV hi2 (cm':=cm3) (o3.mono (B':=B) (by omega)) (o3.apt hbl2) (o3.apt hgl2) (by have:=HLM.out;rw [length_putW];omega)
  rw [en] at this
  have e2:setL (setL h i ⟨df,dp,dz,dan,putW daw k true,dmn,dmw,ds⟩) i ⟨df,dp,dz,dan,putW daw k true,dmn,putW dmw k bl,ds⟩=setL h i ⟨df,dp,dz,dan,putW daw k true,dmn,putW dmw k bl,ds⟩:=by unfold setL;simp only [List.set_set]
  rw [e2] at this
  exact this
 have hb4:Below B w ((w3.setCell ⟨g,i * 8 + 5,none⟩ (.int .i64 dmn)).setCell ⟨g,i * 8 + 5 + 1,none⟩ (.slice M3 (putW dmw k bl).length cm3)):=((hb2.trans (hb_w3.mono (by omega))).setCell (p:=⟨g,i * 8 + 5,none⟩) hgB _).setCell (p:=⟨g,i * 8 + 5 + 1,none⟩) hgB _
 have hi4:i < (setL h i ⟨df,dp,dz,dan,putW daw k true,dmn,putW dmw k bl,ds⟩).l.length:=by simpa [setL] using hi
 have en4:nth (setL h i ⟨df,dp,dz,dan,putW daw k true,dmn,putW dmw k bl,ds⟩).l i=⟨df,dp,dz,dan,putW daw k true,dmn,putW dmw k bl,ds⟩:=by show nth (h.l.set i _) i=_;rw [nth_set _ _ _ _ hi,if_pos rfl]
 obtain ⟨g',A',ca',M',cm',hV',_,_,_,c8',oA',oM',_,_,_⟩:=hm4.span hi4
 obtain rfl:g'=g:=by rw [hV] at hV';injection hV' with e;injection e with e;exact e.symm
 rw [en4] at c8' oA' oM'
 obtain ⟨d0,d1,d2,d3,d4,d5,d6,d7⟩:=c8'
 simp only [Nat.add_zero] at d0 d1 d2 d3 d4 d5 d6 d7 oA' oM'
 go_wp2_with fail
 clear p5 p6 q5 q6
 generalize ((w3.setCell ⟨g',i * 8 + 5,none⟩ (.int .i64 dmn)).setCell ⟨g',i * 8 + 5 + 1,none⟩ (.slice M3 (putW dmw k bl).length cm3))=W4 at *
 go_at_call 159
 refine (HAD.out _ A' M' ca' cm' oA'.row oM'.row).mono ?_
 rintro e w5 ⟨rfl,hb_w5⟩
 have hm5:=hm4.later hb_w5
 have hb4s:=hb4.size
 have hb5:Below B w w5:=hb4.trans (hb_w5.mono (by have:=hm4.lt;omega))
 have HST:=Lib.hid (zstore_any hm5 a x hw hp hx)
 clear d0 d1 d2 d3 d4 d5 d6 d7
 go_wp2_with fail
 go_at_call 105
 refine HST.out.mono ?_
 rintro e w6 ⟨rfl,⟨v6,hm6,hx6,hy6⟩,hb_w6⟩
 clear hx6 hy6
 have hb6:Below B w w6:=hb5.trans hb_w6
 go_wp2
 go_ret
 exact ⟨rfl,⟨v6,hm6⟩,hb6⟩
theorem OkL.apart {l:List Sd} (h:OkL l) {i k:Nat} (hik:i < k) (hk:k < l.length):(nth l i).f + (nth l i).p ≤ (nth l k).f:=by
 induction k with
 | zero=>omega
 | succ k ih=>
  have h1:=h.2.2 k hk
  by_cases e:i=k
  ·subst e;exact h1
  ·have h2:=ih (by omega) (by omega)
   have:=(h.2.1 k (by omega)).sized.slots
   omega
theorem Ok1.in_ {d:Sd} (h:Ok1 d) {a:Int} (h0:0 ≤ a) (h1:a < slotsOf d.z):0 ≤ a * d.z∧a * d.z + 2 ≤ d.p * 16:=by
 obtain ⟨f,p,z,an,aw,mn,mw,s⟩:=d
 have hs:=h.sized
 simp only at *
 rcases hs with ⟨rfl | rfl | rfl | rfl,rfl⟩ | ⟨rfl,g1,g2⟩
 ·rw [show slotsOf 2=8 by decide] at h1;omega
 ·rw [show slotsOf 4=4 by decide] at h1;omega
 ·rw [show slotsOf 8=2 by decide] at h1;omega
 ·rw [show slotsOf 16=1 by decide] at h1;omega
 ·omega
theorem AddrE.ex (d:Sd) (k:Int):∃ r y,AddrE d k r y:=by
 by_cases h:Ok1 d
 ·by_cases hk:0 ≤ k∧k < slotsOf d.z
  ·exact ⟨_,_,.inl ⟨h,hk.1,hk.2,rfl,rfl⟩⟩
  ·exact ⟨_,_,.inr (.inl ⟨h,hk,rfl,rfl⟩)⟩
 ·exact ⟨_,_,.inr (.inr ⟨h,rfl,rfl⟩)⟩
theorem FindE.ex (l:List Sd) (a:Nat):∃ x k y,FindE l a x k y:=by
 by_cases h:OkL l
 ·obtain ⟨x,hx⟩:=IdxE.ex l (inP a)
  rcases hx with ⟨rfl,h2⟩ | ⟨i,rfl,h2⟩
  ·exact ⟨_,_,_,.inr (.inl ⟨h,.inl ⟨rfl,h2⟩,rfl,rfl,rfl⟩)⟩
  ·obtain ⟨k,hk⟩:=IdxN.ex (slotsOf (nth l i).z).toNat (isAt a (nth l i))
   rcases hk with ⟨rfl,h3⟩ | ⟨j,rfl,h3⟩
   ·exact ⟨_,_,_,.inr (.inr ⟨i,h,.inr ⟨i,rfl,h2⟩,.inl ⟨.inl ⟨rfl,h3⟩,rfl,rfl,rfl⟩⟩)⟩
   ·exact ⟨_,_,_,.inr (.inr ⟨i,h,.inr ⟨i,rfl,h2⟩,.inr ⟨j,.inr ⟨j,rfl,h3⟩,rfl,rfl,rfl⟩⟩)⟩
 ·exact ⟨_,_,_,.inl ⟨h,rfl,rfl,rfl⟩⟩
section
variable {w:World} {A:Option Addr} {l:List Sd} (cap:Nat)
end
section
variable {w:World} {A M C N:Option Addr} (ca cm cc cn:Nat)
theorem xsameone_self (d:Sd) (hA:Row w w.heap.size A d.aw) (hM:Row w w.heap.size M d.mw) (hC:Row w w.heap.size C d.aw) (hN:Row w w.heap.size N d.mw) (la:d.aw.length ≤ 17592186044416) (lm:d.mw.length ≤ 17592186044416) :
  Calls Tryz.prog 171 #[spv d A ca M cm,spv d C cc N cn] w fun e w'=>e=.returned (.bool true)∧Below w.heap.size w w':=by
 have HA:=Lib.hid fun (w:World) h1 h2=>same_ok d.an d.aw (by unfold maxLen;omega) w A C ca cc h1 h2
 have HM:=Lib.hid fun (w:World) h1 h2=>same_ok d.mn d.mw (by unfold maxLen;omega) w M N cm cn h1 h2
 obtain ⟨f,p,z,an,aw,mn,mw,s⟩:=d
 unfold spv
 simp only at *
 have n1:(f == f)=true:=by simp
 have n2:(p == p)=true:=by simp
 have n3:(z == z)=true:=by simp
 have n4:(s == s)=true:=by simp
 go_enter Tryz.func171,Tryz.ntmps171
 go_wp2_with fail
 go_at_call 141
 refine (HA.out _ (hA.later bX) (hC.later bX)).mono ?_
 rintro e w2 ⟨rfl,hb_w2⟩
 obtain ⟨hc_w2,hf_w2⟩:=bcell hb_w2
 have hs2:=hb_w2.size
 (try simp only [zA] at hs2)
 have b2:Below w.heap.size w w2:=bX
 have x0:w2.cell? ⟨w.heap.size,0,none⟩=some (.int .i64 f):=(hc_w2 _ _ lX).trans (by simp [go_sem])
 have x1:w2.cell? ⟨w.heap.size,1,none⟩=some (.int .i64 p):=(hc_w2 _ _ lX).trans (by simp [go_sem])
 have x2:w2.cell? ⟨w.heap.size,2,none⟩=some (.int .i64 z):=(hc_w2 _ _ lX).trans (by simp [go_sem])
 have x3:w2.cell? ⟨w.heap.size,3,none⟩=some (.int .i64 an):=(hc_w2 _ _ lX).trans (by simp [go_sem])
 have x4:w2.cell? ⟨w.heap.size,4,none⟩=some (.slice A aw.length ca):=(hc_w2 _ _ lX).trans (by simp [go_sem])
 have x5:w2.cell? ⟨w.heap.size,5,none⟩=some (.int .i64 mn):=(hc_w2 _ _ lX).trans (by simp [go_sem])
 have x6:w2.cell? ⟨w.heap.size,6,none⟩=some (.slice M mw.length cm):=(hc_w2 _ _ lX).trans (by simp [go_sem])
 have x7:w2.cell? ⟨w.heap.size,7,none⟩=some (.bool s):=(hc_w2 _ _ lX).trans (by simp [go_sem])
 have y0:w2.cell? ⟨w.heap.size + 1,0,none⟩=some (.int .i64 f):=(hc_w2 _ _ lX).trans (by simp [go_sem])
 have y1:w2.cell? ⟨w.heap.size + 1,1,none⟩=some (.int .i64 p):=(hc_w2 _ _ lX).trans (by simp [go_sem])
 have y2:w2.cell? ⟨w.heap.size + 1,2,none⟩=some (.int .i64 z):=(hc_w2 _ _ lX).trans (by simp [go_sem])
 have y3:w2.cell? ⟨w.heap.size + 1,3,none⟩=some (.int .i64 an):=(hc_w2 _ _ lX).trans (by simp [go_sem])
 have y4:w2.cell? ⟨w.heap.size + 1,4,none⟩=some (.slice C aw.length cc):=(hc_w2 _ _ lX).trans (by simp [go_sem])
 have y5:w2.cell? ⟨w.heap.size + 1,5,none⟩=some (.int .i64 mn):=(hc_w2 _ _ lX).trans (by simp [go_sem])
 have y6:w2.cell? ⟨w.heap.size + 1,6,none⟩=some (.slice N mw.length cn):=(hc_w2 _ _ lX).trans (by simp [go_sem])
 have y7:w2.cell? ⟨w.heap.size + 1,7,none⟩=some (.bool s):=(hc_w2 _ _ lX).trans (by simp [go_sem])
 clear hc_w2 hf_w2
 go_wp2_with fail
 go_at_call 141
 refine (HM.out _ (hM.later b2) (hN.later b2)).mono ?_
 rintro e w3 ⟨rfl,hb_w3⟩
 have hs3:=hb_w3.size
 have b3:Below w.heap.size w w3:=b2.trans (hb_w3.mono (by omega))
 have X7:w3.cell? ⟨w.heap.size,7,none⟩=some (.bool s):=(hb_w3.cell (p:=⟨w.heap.size,7,none⟩) (by show w.heap.size < _;omega)).trans x7
 have Y7:w3.cell? ⟨w.heap.size + 1,7,none⟩=some (.bool s):=(hb_w3.cell (p:=⟨w.heap.size + 1,7,none⟩) (by show w.heap.size + 1 < _;omega)).trans y7
 go_wp2
 go_ret
 exact ⟨rfl,b3⟩
end
section
variable {w:World} {A C:Option Addr} {l:List Sd} (cap cc:Nat)
set_option maxHeartbeats 8000000 in
theorem xsameL_self (hr:SRow w w.heap.size A l) (hq:SRow w w.heap.size C l) (hl:l.length ≤ 17592186044416) (hw:WordsLe l) :
  Calls Tryz.prog 94 #[.slice A l.length cap,.slice C l.length cc] w fun e w'=>e=.returned (.bool true)∧Below w.heap.size w w':=by
 have HW:=Lib.hid hw
 clear hw
 go_enter Tryz.func94,Tryz.ntmps94
 go_wp2_with fail
 go_loopw [13] (fun ii wr=>∃ k:Nat,ii=.int .i64 (k:Nat)∧k ≤ l.length∧w.heap.size ≤ wr.heap.size∧Below w.heap.size w wr) (fun ii _=>l.length - (intOf ii).toNat)
 case atStart=>exact ⟨0,rfl,Nat.zero_le _,lX,bX⟩
 case round=>
  obtain ⟨k,rfl,hk,hsz,hb_wr⟩:=hrel
  have hsr:=hb_wr.size
  by_cases hlt:k < l.length
  ·obtain ⟨b,off,hAe,hbb,hc⟩:=(hr.later hb_wr).at_ (by omega)
   obtain ⟨b',off',hCe,hbb',hc'⟩:=(hq.later hb_wr).at_ (by omega)
   obtain ⟨A,ca,M,cm,c8,ra,rm⟩:=hc k hlt
   obtain ⟨C,cc',N,cn,c8',rc,rn⟩:=hc' k hlt
   obtain ⟨wa,wm⟩:=HW.out _ (nth_mem l k hlt)
   generalize nth l k=d at *
   have HO:=Lib.hid fun (w:World) h1 h2 h3 h4=>xsameone_self (w:=w) (A:=A) (M:=M) (C:=C) (N:=N) ca cm cc' cn d h1 h2 h3 h4 wa wm
   obtain ⟨x0,x1,x2,x3,x4,x5,x6,x7⟩:=c8
   obtain ⟨y0,y1,y2,y3,y4,y5,y6,y7⟩:=c8'
   subst hAe hCe
   clear hc hc' wa wm
   obtain ⟨f,p,z,an,aw,mn,mw,s⟩:=d
   unfold spv at HO
   simp only at *
   have i1:(k:Int) < (l.length:Int):=by omega
   have i2:(0:Int) ≤ (k:Int):=by omega
   go_wp2_with fail
   go_region_held3 (fun X:World=>X.cell? ⟨b,off + k * 8,none⟩=some (.int .i64 f)∧X.cell? ⟨b,off + k * 8 + 1,none⟩=some (.int .i64 p)∧X.cell? ⟨b,off + k * 8 + 2,none⟩=some (.int .i64 z)∧X.cell? ⟨b,off + k * 8 + 3,none⟩=some (.int .i64 an)∧X.cell? ⟨b,off + k * 8 + 4,none⟩=some (.slice A aw.length ca)∧X.cell? ⟨b,off + k * 8 + 5,none⟩=some (.int .i64 mn)∧X.cell? ⟨b,off + k * 8 + 6,none⟩=some (.slice M mw.length cm)∧X.cell? ⟨b,off + k * 8 + 7,none⟩=some (.bool s)∧X.cell? ⟨b',off' + k * 8,none⟩=some (.int .i64 f)∧X.cell? ⟨b',off' + k * 8 + 1,none⟩=some (.int .i64 p)∧X.cell? ⟨b',off' + k * 8 + 2,none⟩=some (.int .i64 z)∧X.cell? ⟨b',off' + k * 8 + 3,none⟩=some (.int .i64 an)∧X.cell? ⟨b',off' + k * 8 + 4,none⟩=some (.slice C aw.length cc')∧X.cell? ⟨b',off' + k * 8 + 5,none⟩=some (.int .i64 mn)∧X.cell? ⟨b',off' + k * 8 + 6,none⟩=some (.slice N mw.length cn)∧X.cell? ⟨b',off' + k * 8 + 7,none⟩=some (.bool s))
    (refine ⟨?_,?_,?_,?_,?_,?_,?_,?_,?_,?_,?_,?_,?_,?_,?_,?_⟩ <;> first | assumption | exact (World.cell?_alloc_lt _ _ ⟨_,_,_⟩ lX).trans (by assumption) | (simp [go_sem];done))
    ((go_at_call 171;refine (HO.out _ (ra.later bX) (rm.later bX) (rc.later bX) (rn.later bX)).mono ?_;rintro e w5 ⟨rfl,hb_w5⟩;have hs5:=hb_w5.size;(try simp only [zZ] at hs5);have m0:w5.cell? ⟨b,off + k * 8,none⟩=some (.int .i64 f):=(hb_w5.cell lX).trans kY;have m1:w5.cell? ⟨b,off + k * 8 + 1,none⟩=some (.int .i64 p):=(hb_w5.cell lX).trans kY;have m2:w5.cell? ⟨b,off + k * 8 + 2,none⟩=some (.int .i64 z):=(hb_w5.cell lX).trans kY;have m3:w5.cell? ⟨b,off + k * 8 + 3,none⟩=some (.int .i64 an):=(hb_w5.cell lX).trans kY;have m4:w5.cell? ⟨b,off + k * 8 + 4,none⟩=some (.slice A aw.length ca):=(hb_w5.cell lX).trans kY;have m5:w5.cell? ⟨b,off + k * 8 + 5,none⟩=some (.int .i64 mn):=(hb_w5.cell lX).trans kY;have m6:w5.cell? ⟨b,off + k * 8 + 6,none⟩=some (.slice M mw.length cm):=(hb_w5.cell lX).trans kY;have m7:w5.cell? ⟨b,off + k * 8 + 7,none⟩=some (.bool s):=(hb_w5.cell lX).trans kY;have m8:w5.cell? ⟨b',off' + k * 8,none⟩=some (.int .i64 f):=(hb_w5.cell lX).trans kY;have m9:w5.cell? ⟨b',off' + k * 8 + 1,none⟩=some (.int .i64 p):=(hb_w5.cell lX).trans kY;have m10:w5.cell? ⟨b',off' + k * 8 + 2,none⟩=some (.int .i64 z):=(hb_w5.cell lX).trans kY;have m11:w5.cell? ⟨b',off' + k * 8 + 3,none⟩=some (.int .i64 an):=(hb_w5.cell lX).trans kY;have m12:w5.cell? ⟨b',off' + k * 8 + 4,none⟩=some (.slice C aw.length cc'):=(hb_w5.cell lX).trans kY;have m13:w5.cell? ⟨b',off' + k * 8 + 5,none⟩=some (.int .i64 mn):=(hb_w5.cell lX).trans kY;have m14:w5.cell? ⟨b',off' + k * 8 + 6,none⟩=some (.slice N mw.length cn):=(hb_w5.cell lX).trans kY;have m15:w5.cell? ⟨b',off' + k * 8 + 7,none⟩=some (.bool s):=(hb_w5.cell lX).trans kY))
   all_goals
    go_wp2
    go_roundw
    case rel=>exact ⟨k + 1,by go_num,by omega,lX,bX⟩
    case measure=>simp [intOf];omega
  ·go_wp2
   go_ret
   exact ⟨rfl,hb_wr⟩
end
def insS (l:List Sd) (s:Sd) (n:Nat):List Sd:=l.take n ++ [s] ++ l.drop n
theorem insS_len (l:List Sd) (s:Sd) (n:Nat) (hn:n ≤ l.length):(insS l s n).length=l.length + 1:=by
 simp only [insS,List.length_append,List.length_take,List.length_drop,List.length_singleton];omega
theorem insS_nth (l:List Sd) (s:Sd) (n j:Nat) (hn:n ≤ l.length):nth (insS l s n) j=if j < n then nth l j else if j=n then s else nth l (j - 1):=by
 unfold nth insS
 simp only [List.getD_eq_getElem?_getD]
 have hl:(l.take n ++ [s]).length=n + 1:=by simp only [List.length_append,List.length_take,List.length_singleton];omega
 by_cases h:j < n
 ·rw [if_pos h,List.getElem?_append_left (by omega),List.getElem?_append_left (by rw [List.length_take];omega),List.getElem?_take_of_lt h]
 ·rw [if_neg h]
  by_cases e:j=n
  ·subst e
   rw [if_pos rfl,List.getElem?_append_left (by omega),List.getElem?_append_right (by rw [List.length_take];omega)]
   rw [List.length_take,show j - min j l.length=0 by omega]
   rfl
  ·rw [if_neg e,List.getElem?_append_right (by omega),List.getElem?_drop,hl,show n + (j - (n + 1))=j - 1 by omega]
theorem pos_before {l:List Sd} {s:Sd} {n:Nat} (h:PosE l s n):∀ j,j < n → (nth l j).f + (nth l j).p ≤ s.f:=fun j hj=>by
 have hf:hitsS s (nth l j)=false:=by
  rcases h with ⟨h1,rfl⟩ | h1
  ·rcases h1 with ⟨_,h2⟩ | ⟨i,h2,_⟩
   ·exact h2 j hj
   ·omega
  ·rcases h1 with ⟨h2,_⟩ | ⟨i,h2,_,_,h3⟩
   ·omega
   ·exact h3 j (by omega)
 unfold hitsS at hf
 have:=of_decide_eq_false hf
 omega
theorem insS_ok {l:List Sd} {s:Sd} {n:Nat} (h:OkL l) (h1:Ok1 s) (hp:PosE l s n) (hc:¬ Clash l s n) (h256:l.length < 256):OkL (insS l s n):=by
 have hn:=hp.le
 have hb:=pos_before hp
 refine ⟨by rw [insS_len _ _ _ hn];omega,fun i hi=>?_,fun i hi=>?_⟩
 ·rw [insS_len _ _ _ hn] at hi
  rw [insS_nth _ _ _ _ hn]
  split
  ·exact h.2.1 i (by omega)
  ·split
   ·exact h1
   ·exact h.2.1 (i - 1) (by omega)
 ·rw [insS_len _ _ _ hn] at hi
  rw [insS_nth _ _ _ _ hn,insS_nth _ _ _ _ hn]
  by_cases e1:i + 1 < n
  ·rw [if_pos (by omega),if_pos e1]
   exact h.2.2 i (by omega)
  ·by_cases e2:i + 1=n
   ·rw [if_pos (by omega),if_neg (by omega),if_pos e2]
    exact hb i (by omega)
   ·by_cases e3:i=n
    ·rw [if_neg (by omega),if_pos e3,if_neg (by omega),if_neg (by omega),show i + 1 - 1=n by omega]
     have:¬ (nth l n).f < s.f + s.p:=fun hlt=>hc ⟨by omega,hlt⟩
     omega
    ·rw [if_neg (by omega),if_neg e3,if_neg (by omega),if_neg (by omega)]
     have:=h.2.2 (i - 1) (by omega)
     rw [show i - 1 + 1=i by omega] at this
     rw [show i + 1 - 1=i by omega]
     exact this
theorem insS_find {l:List Sd} {s:Sd} {n:Nat} (h:OkL l) (hp:PosE l s n):IdxE (insS l s n) (fun d=>d.f == s.f) (n:Nat):=by
 have hn:=hp.le
 have hb:=pos_before hp
 refine .inr ⟨n,rfl,by rw [insS_len _ _ _ hn];omega,?_,fun j hj=>?_⟩
 ·rw [insS_nth _ _ _ _ hn,if_neg (by omega),if_pos rfl]
  simp
 ·rw [insS_nth _ _ _ _ hn,if_pos hj]
  have:=hb j hj
  have:=(h.2.1 j (by omega)).sized.slots
  simp
  omega
section
variable {w:World} {A As Ms:Option Addr} {l:List Sd} (cap ca cm:Nat)
end
section
variable {w:World} {A M:Option Addr} (ca cm:Nat)
set_option maxHeartbeats 4000000 in
theorem xright_z0 (f p an:Int) (aw:List Nat) (mn:Int) (mw:List Nat) (s:Bool) (hp2:2 ≤ p) (hp4:p ≤ 4) (hpl:Placed f p) (hA:Row w w.heap.size A aw) (hM:Row w w.heap.size M mw) (b:Bool) (hb:b=true ↔ Rec ⟨f,p,0,an,aw,mn,mw,s⟩) :
  Calls Tryz.prog 167 #[.agg #[.int .i64 f,.int .i64 p,.int .i64 0,.int .i64 an,.slice A aw.length ca,.int .i64 mn,.slice M mw.length cm,.bool s]] w fun e w'=>e=.returned (.bool b)∧Below w.heap.size w w':=by
 unfold Placed at hpl
 obtain ⟨p0,p1⟩:=hpl
 have d1:decide (f < 0)=false:=decide_eq_false (by omega)
 have d2:decide (1024 - p < f)=false:=decide_eq_false (by omega)
 have d3:decide (2 ≤ p)=true:=decide_eq_true hp2
 have d4:decide (p ≤ 4)=true:=decide_eq_true hp4
 have d5:decide (1024 - p < f)=false:=d2
 have d6:IntKind.i64.wrap (1024 - p)=1024 - p:=by rw [IntWalk.i64_in _ (by omega)]
 have hslots:slotsOf 0=1:=by decide
 unfold Rec at hb
 simp only [hslots] at hb
 have HB:=Lib.hid hb
 have HMY:=Lib.hid fun (w:World)=>xmany_any (w:=w) (p:=p) (z:=0) (by unfold Sized;omega)
 rw [hslots] at HMY
 clear hb
 by_cases hra:Right an aw
 ·have HRA:=Lib.hid hra
  clear hra
  by_cases hrm:Right mn mw
  ·have HRM:=Lib.hid hrm
   clear hrm
   by_cases ha:an=1
   ·subst ha
    by_cases hm:mn=1
    ·subst hm
     have HSUB:Hid (b=true ↔ ∀ i,i < 1 → tb mw i=true → tb aw i=true):=Lib.hid ⟨fun h=>(HB.out.1 h).2.2.2.2,fun h=>HB.out.2 ⟨rfl,rfl,HRA.out,HRM.out,h⟩⟩
     have la:aw.length=1:=by have:=HRA.out.2.2.1;omega
     have lm:mw.length=1:=by have:=HRM.out.2.2.1;omega
     have HLA:=Lib.hid la
     have HLM:=Lib.hid lm
     clear la lm
     have HCA:=Lib.hid fun (w:World) hr=>rcheck_ok (n:=1) (A:=A) (ws:=aw) (w:=w) ca hr HRA.out
     have HCM:=Lib.hid fun (w:World) hr=>rcheck_ok (n:=1) (A:=M) (ws:=mw) (w:=w) cm hr HRM.out
     go_enter Tryz.func167,Tryz.ntmps167
     go_wp2_with fail
     refine wp_region_held_drew (S:=(fun X:World=>X.cell? ⟨w.heap.size,0,none⟩=some (.int .i64 f)∧X.cell? ⟨w.heap.size,1,none⟩=some (.int .i64 p)∧X.cell? ⟨w.heap.size,2,none⟩=some (.int .i64 0)∧X.cell? ⟨w.heap.size,3,none⟩=some (.int .i64 1)∧X.cell? ⟨w.heap.size,4,none⟩=some (.slice A aw.length ca)∧X.cell? ⟨w.heap.size,5,none⟩=some (.int .i64 1)∧X.cell? ⟨w.heap.size,6,none⟩=some (.slice M mw.length cm)∧X.cell? ⟨w.heap.size,7,none⟩=some (.bool s))) (by kernel_rfl) ?_ fun _=>?_
     ·exact kS
     refine tY 0 ?_
     try simp only [Act.put,qZ]
     refine tY 1 ?_
     try simp only [Act.put,qZ]
     refine tR 2 fun K hK=>?_
     try simp only [qZ]
     go_simp
     go_at_call 145
     refine (HCA.out _ (hA.later bX)).mono ?_
     rintro e w1 ⟨rfl,hb_w1⟩
     have hs_w1:=hb_w1.size
     (try simp only [zZ] at hs_w1)
     have mw10:w1.cell? ⟨w.heap.size,0,none⟩=some (.int .i64 f):=cX hb_w1
     have mw11:w1.cell? ⟨w.heap.size,1,none⟩=some (.int .i64 p):=cX hb_w1
     have mw12:w1.cell? ⟨w.heap.size,2,none⟩=some (.int .i64 0):=cX hb_w1
     have mw13:w1.cell? ⟨w.heap.size,3,none⟩=some (.int .i64 1):=cX hb_w1
     have mw14:w1.cell? ⟨w.heap.size,4,none⟩=some (.slice A aw.length ca):=cX hb_w1
     have mw15:w1.cell? ⟨w.heap.size,5,none⟩=some (.int .i64 1):=cX hb_w1
     have mw16:w1.cell? ⟨w.heap.size,6,none⟩=some (.slice M mw.length cm):=cX hb_w1
     have mw17:w1.cell? ⟨w.heap.size,7,none⟩=some (.bool s):=cX hb_w1
     try go_wp2_with fail
     refine hK.out _ _ ?_ fun _=>?_
     ·exact kS
     clear hK K
     try simp only [Act.put,qZ]
     refine tY 3 ?_
     try simp only [Act.put,qZ]
     refine tY 4 ?_
     try simp only [Act.put,qZ]
     refine tY 5 ?_
     try simp only [Act.put,qZ]
     refine tY 6 ?_
     try simp only [Act.put,qZ]
     refine tR 7 fun K hK=>?_
     try simp only [qZ]
     go_simp
     go_at_call 145
     refine (HCM.out _ (hM.later bX)).mono ?_
     rintro e w2 ⟨rfl,hb_w2⟩
     have hs_w2:=hb_w2.size
     (try simp only [zZ] at hs_w2)
     have mw20:w2.cell? ⟨w.heap.size,0,none⟩=some (.int .i64 f):=cX hb_w2
     have mw21:w2.cell? ⟨w.heap.size,1,none⟩=some (.int .i64 p):=cX hb_w2
     have mw22:w2.cell? ⟨w.heap.size,2,none⟩=some (.int .i64 0):=cX hb_w2
     have mw23:w2.cell? ⟨w.heap.size,3,none⟩=some (.int .i64 1):=cX hb_w2
     have mw24:w2.cell? ⟨w.heap.size,4,none⟩=some (.slice A aw.length ca):=cX hb_w2
     have mw25:w2.cell? ⟨w.heap.size,5,none⟩=some (.int .i64 1):=cX hb_w2
     have mw26:w2.cell? ⟨w.heap.size,6,none⟩=some (.slice M mw.length cm):=cX hb_w2
     have mw27:w2.cell? ⟨w.heap.size,7,none⟩=some (.bool s):=cX hb_w2
     try go_wp2_with fail
     refine hK.out _ _ ?_ fun _=>?_
     ·exact kS
     clear hK K
     try simp only [Act.put,qZ]
     refine tY 8 ?_
     try simp only [Act.put,qZ]
     refine tR 9 fun K hK=>?_
     try simp only [qZ]
     go_simp
     refine hK.out _ _ ?_ fun _=>?_
     ·exact kS
     clear hK K
     try simp only [Act.put,qZ]
     refine tY 10 ?_
     try simp only [Act.put,qZ]
     refine tY 11 ?_
     try simp only [Act.put,qZ]
     refine tY 12 ?_
     try simp only [Act.put,qZ]
     refine tY 13 ?_
     try simp only [Act.put,qZ]
     refine tY 14 ?_
     try simp only [Act.put,qZ]
     refine tY 15 ?_
     try simp only [Act.put,qZ]
     refine tR 16 fun K hK=>?_
     try simp only [qZ]
     go_simp
     go_at_call 161
     refine (HMY.out _).mono ?_
     rintro e w0 ⟨rfl,rfl⟩
     try go_wp2_with fail
     refine hK.out _ _ ?_ fun _=>?_
     ·exact kS
     clear hK K
     try simp only [Act.put,qZ]
     refine tY 17 ?_
     try simp only [Act.put,qZ]
     refine tR 18 fun K hK=>?_
     try simp only [qZ]
     go_simp
     refine hK.out _ _ ?_ fun _=>?_
     ·exact kS
     clear hK K
     try simp only [Act.put,qZ]
     refine tY 19 ?_
     try simp only [Act.put,qZ]
     refine tY 20 ?_
     try simp only [Act.put,qZ]
     refine tY 21 ?_
     try simp only [Act.put,qZ]
     refine tY 22 ?_
     try simp only [Act.put,qZ]
     refine tY 23 ?_
     try simp only [Act.put,qZ]
     refine tY 24 ?_
     try simp only [Act.put,qZ]
     refine tR 25 fun K hK=>?_
     try simp only [qZ]
     go_simp
     go_at_call 161
     refine (HMY.out _).mono ?_
     rintro e w0 ⟨rfl,rfl⟩
     try go_wp2_with fail
     refine hK.out _ _ ?_ fun _=>?_
     ·exact kS
     clear hK K
     try simp only [Act.put,qZ]
     refine tY 26 ?_
     try simp only [Act.put,qZ]
     refine tR 27 fun K hK=>?_
     try simp only [qZ]
     go_simp
     refine hK.out _ _ ?_ fun _=>?_
     ·exact kS
     clear hK K
     try simp only [Act.put,qZ]
     refine wpAnyH_done (by kernel_rfl) ?_ _
     go_wp2_with fail
     go_loopw [5] (fun ii wr=>∃ k:Nat,ii=.int .i64 (k:Nat)∧k ≤ 1∧Hid (∀ i,i < k → tb mw i=true → tb aw i=true)∧wr.cell? ⟨w.heap.size,3,none⟩=some (.int .i64 1)∧wr.cell? ⟨w.heap.size,4,none⟩=some (.slice A aw.length ca)∧wr.cell? ⟨w.heap.size,5,none⟩=some (.int .i64 1)∧wr.cell? ⟨w.heap.size,6,none⟩=some (.slice M mw.length cm)∧w.heap.size + 1 ≤ wr.heap.size∧Below w.heap.size w wr) (fun ii _=>1 - (intOf ii).toNat)
     case atStart=>exact ⟨0,rfl,by omega,Lib.hid (fun i hi=>by omega),by first | assumption | (simp;assumption),by first | assumption | (simp;assumption),by first | assumption | (simp;assumption),by first | assumption | (simp;assumption),lX,bX⟩
     case round=>
      obtain ⟨k,rfl,hk,hS,q3,q4,q5,q6,hsz,hb_wr⟩:=hrel
      have hsr:=hb_wr.size
      have rA:=hA.later hb_wr
      have rM:=hM.later hb_wr
      by_cases hlt:k < 1
      ·have i1:(k:Int) < 1:=by omega
       obtain ⟨bm,hbm⟩:∃ x,Hid (tb mw k=x):=⟨_,rfl⟩
       obtain ⟨ba,hba⟩:∃ x,Hid (tb aw k=x):=⟨_,rfl⟩
       have HIM:=Lib.hid fun (w:World) hr=>is_any (A:=M) (ws:=mw) (w:=w) (k:Nat) 1 cm hr (by omega) (by rw [HLM.out];omega) (by rw [HLM.out];omega)
       have HIA:=Lib.hid fun (w:World) hr=>is_any (A:=A) (ws:=aw) (w:=w) (k:Nat) 1 ca hr (by omega) (by rw [HLA.out];omega) (by rw [HLA.out];omega)
       simp only [Int.toNat_natCast] at HIM HIA
       rw [hbm.out] at HIM
       rw [hba.out] at HIA
       cases bm
       ·go_wp2_with (go_at_call 107;refine (HIM.out _ (rM.later bX)).mono ?_;rintro e w5 ⟨rfl,hb_w5⟩;have hs5:=hb_w5.size)
        go_roundw
        case rel=>exact ⟨k + 1,by go_num,by omega,Lib.hid (fun i hi h=>by
          by_cases e:i=k
          ·subst e;rw [hbm.out] at h;cases h
          ·exact hS.out i (by omega) h),(hb_w5.cell lX).trans q3,(hb_w5.cell lX).trans q4,(hb_w5.cell lX).trans q5,(hb_w5.cell lX).trans q6,lX,bX⟩
        case measure=>simp [intOf];omega
       ·cases ba
        ·obtain rfl:b=false:=by
          cases b
          ·rfl
          ·have:=HSUB.out.1 rfl k hlt hbm.out
           rw [hba.out] at this
           cases this
         go_wp2_with fail
         go_at_call 107
         refine (HIM.out _ (rM.later bX)).mono ?_
         rintro e w5 ⟨rfl,hb_w5⟩
         have hs5:=hb_w5.size
         have x3:=(hb_w5.cell lX).trans q3
         have x4:=(hb_w5.cell lX).trans q4
         go_wp2_with fail
         go_at_call 107
         refine (HIA.out _ ((rA.later hb_w5).later bX)).mono ?_
         rintro e w6 ⟨rfl,hb_w6⟩
         have hs6:=hb_w6.size
         go_wp2
         go_ret
         exact ⟨rfl,bX⟩
        ·go_wp2_with fail
         go_at_call 107
         refine (HIM.out _ (rM.later bX)).mono ?_
         rintro e w5 ⟨rfl,hb_w5⟩
         have hs5:=hb_w5.size
         have x3:=(hb_w5.cell lX).trans q3
         have x4:=(hb_w5.cell lX).trans q4
         have x5:=(hb_w5.cell lX).trans q5
         have x6:=(hb_w5.cell lX).trans q6
         go_wp2_with fail
         go_at_call 107
         refine (HIA.out _ ((rA.later hb_w5).later bX)).mono ?_
         rintro e w6 ⟨rfl,hb_w6⟩
         have hs6:=hb_w6.size
         go_wp2
         go_roundw
         case rel=>exact ⟨k + 1,by go_num,by omega,Lib.hid (fun i hi h=>by
           by_cases e:i=k
           ·subst e;exact hba.out
           ·exact hS.out i (by omega) h),(hb_w6.cell lX).trans x3,(hb_w6.cell lX).trans x4,(hb_w6.cell lX).trans x5,(hb_w6.cell lX).trans x6,lX,bX⟩
         case measure=>simp [intOf];omega
      ·obtain rfl:k=1:=by omega
       obtain rfl:b=true:=HSUB.out.2 hS.out
       go_wp2
       go_ret
       exact ⟨rfl,bX⟩
    ·have HNE:=Lib.hid hm
     have nm:(mn != 1)=true:=by simpa using hm
     clear hm
     obtain rfl:b=false:=by
      cases b
      ·rfl
      ·exact absurd (HB.out.1 rfl).2.1 HNE.out
     have HCA:=Lib.hid fun (w:World) hr=>rcheck_ok (n:=1) (A:=A) (ws:=aw) (w:=w) ca hr HRA.out
     have HCM:=Lib.hid fun (w:World) hr=>rcheck_ok (n:=mn) (A:=M) (ws:=mw) (w:=w) cm hr HRM.out
     go_enter Tryz.func167,Tryz.ntmps167
     go_wp2_with fail
     refine wp_region_held_drew (S:=(fun X:World=>X.cell? ⟨w.heap.size,0,none⟩=some (.int .i64 f)∧X.cell? ⟨w.heap.size,1,none⟩=some (.int .i64 p)∧X.cell? ⟨w.heap.size,2,none⟩=some (.int .i64 0)∧X.cell? ⟨w.heap.size,3,none⟩=some (.int .i64 1)∧X.cell? ⟨w.heap.size,4,none⟩=some (.slice A aw.length ca)∧X.cell? ⟨w.heap.size,5,none⟩=some (.int .i64 mn)∧X.cell? ⟨w.heap.size,6,none⟩=some (.slice M mw.length cm)∧X.cell? ⟨w.heap.size,7,none⟩=some (.bool s))) (by kernel_rfl) ?_ fun _=>?_
     ·exact kS
     refine tY 0 ?_
     try simp only [Act.put,qZ]
     refine tY 1 ?_
     try simp only [Act.put,qZ]
     refine tR 2 fun K hK=>?_
     try simp only [qZ]
     go_simp
     go_at_call 145
     refine (HCA.out _ (hA.later bX)).mono ?_
     rintro e w1 ⟨rfl,hb_w1⟩
     have hs_w1:=hb_w1.size
     (try simp only [zZ] at hs_w1)
     have mw10:w1.cell? ⟨w.heap.size,0,none⟩=some (.int .i64 f):=cX hb_w1
     have mw11:w1.cell? ⟨w.heap.size,1,none⟩=some (.int .i64 p):=cX hb_w1
     have mw12:w1.cell? ⟨w.heap.size,2,none⟩=some (.int .i64 0):=cX hb_w1
     have mw13:w1.cell? ⟨w.heap.size,3,none⟩=some (.int .i64 1):=cX hb_w1
     have mw14:w1.cell? ⟨w.heap.size,4,none⟩=some (.slice A aw.length ca):=cX hb_w1
     have mw15:w1.cell? ⟨w.heap.size,5,none⟩=some (.int .i64 mn):=cX hb_w1
     have mw16:w1.cell? ⟨w.heap.size,6,none⟩=some (.slice M mw.length cm):=cX hb_w1
     have mw17:w1.cell? ⟨w.heap.size,7,none⟩=some (.bool s):=cX hb_w1
     try go_wp2_with fail
     refine hK.out _ _ ?_ fun _=>?_
     ·exact kS
     clear hK K
     try simp only [Act.put,qZ]
     refine tY 3 ?_
     try simp only [Act.put,qZ]
     refine tY 4 ?_
     try simp only [Act.put,qZ]
     refine tY 5 ?_
     try simp only [Act.put,qZ]
     refine tY 6 ?_
     try simp only [Act.put,qZ]
     refine tR 7 fun K hK=>?_
     try simp only [qZ]
     go_simp
     go_at_call 145
     refine (HCM.out _ (hM.later bX)).mono ?_
     rintro e w2 ⟨rfl,hb_w2⟩
     have hs_w2:=hb_w2.size
     (try simp only [zZ] at hs_w2)
     have mw20:w2.cell? ⟨w.heap.size,0,none⟩=some (.int .i64 f):=cX hb_w2
     have mw21:w2.cell? ⟨w.heap.size,1,none⟩=some (.int .i64 p):=cX hb_w2
     have mw22:w2.cell? ⟨w.heap.size,2,none⟩=some (.int .i64 0):=cX hb_w2
     have mw23:w2.cell? ⟨w.heap.size,3,none⟩=some (.int .i64 1):=cX hb_w2
     have mw24:w2.cell? ⟨w.heap.size,4,none⟩=some (.slice A aw.length ca):=cX hb_w2
     have mw25:w2.cell? ⟨w.heap.size,5,none⟩=some (.int .i64 mn):=cX hb_w2
     have mw26:w2.cell? ⟨w.heap.size,6,none⟩=some (.slice M mw.length cm):=cX hb_w2
     have mw27:w2.cell? ⟨w.heap.size,7,none⟩=some (.bool s):=cX hb_w2
     try go_wp2_with fail
     refine hK.out _ _ ?_ fun _=>?_
     ·exact kS
     clear hK K
     try simp only [Act.put,qZ]
     refine tY 8 ?_
     try simp only [Act.put,qZ]
     refine tR 9 fun K hK=>?_
     try simp only [qZ]
     go_simp
     refine hK.out _ _ ?_ fun _=>?_
     ·exact kS
     clear hK K
     try simp only [Act.put,qZ]
     refine tY 10 ?_
     try simp only [Act.put,qZ]
     refine tY 11 ?_
     try simp only [Act.put,qZ]
     refine tY 12 ?_
     try simp only [Act.put,qZ]
     refine tY 13 ?_
     try simp only [Act.put,qZ]
     refine tY 14 ?_
     try simp only [Act.put,qZ]
     refine tY 15 ?_
     try simp only [Act.put,qZ]
     refine tR 16 fun K hK=>?_
     try simp only [qZ]
     go_simp
     go_at_call 161
     refine (HMY.out _).mono ?_
     rintro e w0 ⟨rfl,rfl⟩
     try go_wp2_with fail
     refine hK.out _ _ ?_ fun _=>?_
     ·exact kS
     clear hK K
     try simp only [Act.put,qZ]
     refine tY 17 ?_
     try simp only [Act.put,qZ]
     refine tR 18 fun K hK=>?_
     try simp only [qZ]
     go_simp
     refine hK.out _ _ ?_ fun _=>?_
     ·exact kS
     clear hK K
     try simp only [Act.put,qZ]
     refine tY 19 ?_
     try simp only [Act.put,qZ]
     refine tY 20 ?_
     try simp only [Act.put,qZ]
     refine tY 21 ?_
     try simp only [Act.put,qZ]
     refine tY 22 ?_
     try simp only [Act.put,qZ]
     refine tY 23 ?_
     try simp only [Act.put,qZ]
     refine tY 24 ?_
     try simp only [Act.put,qZ]
     refine tR 25 fun K hK=>?_
     try simp only [qZ]
     go_simp
     go_at_call 161
     refine (HMY.out _).mono ?_
     rintro e w0 ⟨rfl,rfl⟩
     try go_wp2_with fail
     refine hK.out _ _ ?_ fun _=>?_
     ·exact kS
     clear hK K
     try simp only [Act.put,qZ]
     refine tY 26 ?_
     try simp only [Act.put,qZ]
     refine tR 27 fun K hK=>?_
     try simp only [qZ]
     go_simp
     refine hK.out _ _ ?_ fun _=>?_
     ·exact kS
     clear hK K
     try simp only [Act.put,qZ]
     refine wpAnyH_done (by kernel_rfl) ?_ _
     go_wp2
     go_ret
     exact ⟨rfl,bX⟩
   ·have HNE:=Lib.hid ha
    have nm:(an != 1)=true:=by simpa using ha
    clear ha
    obtain rfl:b=false:=by
     cases b
     ·rfl
     ·exact absurd (HB.out.1 rfl).1 HNE.out
    have HCA:=Lib.hid fun (w:World) hr=>rcheck_ok (n:=an) (A:=A) (ws:=aw) (w:=w) ca hr HRA.out
    have HCM:=Lib.hid fun (w:World) hr=>rcheck_ok (n:=mn) (A:=M) (ws:=mw) (w:=w) cm hr HRM.out
    go_enter Tryz.func167,Tryz.ntmps167
    go_wp2_with fail
    refine wp_region_held_drew (S:=(fun X:World=>X.cell? ⟨w.heap.size,0,none⟩=some (.int .i64 f)∧X.cell? ⟨w.heap.size,1,none⟩=some (.int .i64 p)∧X.cell? ⟨w.heap.size,2,none⟩=some (.int .i64 0)∧X.cell? ⟨w.heap.size,3,none⟩=some (.int .i64 an)∧X.cell? ⟨w.heap.size,4,none⟩=some (.slice A aw.length ca)∧X.cell? ⟨w.heap.size,5,none⟩=some (.int .i64 mn)∧X.cell? ⟨w.heap.size,6,none⟩=some (.slice M mw.length cm)∧X.cell? ⟨w.heap.size,7,none⟩=some (.bool s))) (by kernel_rfl) ?_ fun _=>?_
    ·exact kS
    refine tY 0 ?_
    try simp only [Act.put,qZ]
    refine tY 1 ?_
    try simp only [Act.put,qZ]
    refine tR 2 fun K hK=>?_
    try simp only [qZ]
    go_simp
    go_at_call 145
    refine (HCA.out _ (hA.later bX)).mono ?_
    rintro e w1 ⟨rfl,hb_w1⟩
    have hs_w1:=hb_w1.size
    (try simp only [zZ] at hs_w1)
    have mw10:w1.cell? ⟨w.heap.size,0,none⟩=some (.int .i64 f):=cX hb_w1
    have mw11:w1.cell? ⟨w.heap.size,1,none⟩=some (.int .i64 p):=cX hb_w1
    have mw12:w1.cell? ⟨w.heap.size,2,none⟩=some (.int .i64 0):=cX hb_w1
    have mw13:w1.cell? ⟨w.heap.size,3,none⟩=some (.int .i64 an):=cX hb_w1
    have mw14:w1.cell? ⟨w.heap.size,4,none⟩=some (.slice A aw.length ca):=cX hb_w1
    have mw15:w1.cell? ⟨w.heap.size,5,none⟩=some (.int .i64 mn):=cX hb_w1
    have mw16:w1.cell? ⟨w.heap.size,6,none⟩=some (.slice M mw.length cm):=cX hb_w1
    have mw17:w1.cell? ⟨w.heap.size,7,none⟩=some (.bool s):=cX hb_w1
    try go_wp2_with fail
    refine hK.out _ _ ?_ fun _=>?_
    ·exact kS
    clear hK K
    try simp only [Act.put,qZ]
    refine tY 3 ?_
    try simp only [Act.put,qZ]
    refine tY 4 ?_
    try simp only [Act.put,qZ]
    refine tY 5 ?_
    try simp only [Act.put,qZ]
    refine tY 6 ?_
    try simp only [Act.put,qZ]
    refine tR 7 fun K hK=>?_
    try simp only [qZ]
    go_simp
    go_at_call 145
    refine (HCM.out _ (hM.later bX)).mono ?_
    rintro e w2 ⟨rfl,hb_w2⟩
    have hs_w2:=hb_w2.size
    (try simp only [zZ] at hs_w2)
    have mw20:w2.cell? ⟨w.heap.size,0,none⟩=some (.int .i64 f):=cX hb_w2
    have mw21:w2.cell? ⟨w.heap.size,1,none⟩=some (.int .i64 p):=cX hb_w2
    have mw22:w2.cell? ⟨w.heap.size,2,none⟩=some (.int .i64 0):=cX hb_w2
    have mw23:w2.cell? ⟨w.heap.size,3,none⟩=some (.int .i64 an):=cX hb_w2
    have mw24:w2.cell? ⟨w.heap.size,4,none⟩=some (.slice A aw.length ca):=cX hb_w2
    have mw25:w2.cell? ⟨w.heap.size,5,none⟩=some (.int .i64 mn):=cX hb_w2
    have mw26:w2.cell? ⟨w.heap.size,6,none⟩=some (.slice M mw.length cm):=cX hb_w2
    have mw27:w2.cell? ⟨w.heap.size,7,none⟩=some (.bool s):=cX hb_w2
    try go_wp2_with fail
    refine hK.out _ _ ?_ fun _=>?_
    ·exact kS
    clear hK K
    try simp only [Act.put,qZ]
    refine tY 8 ?_
    try simp only [Act.put,qZ]
    refine tR 9 fun K hK=>?_
    try simp only [qZ]
    go_simp
    refine hK.out _ _ ?_ fun _=>?_
    ·exact kS
    clear hK K
    try simp only [Act.put,qZ]
    refine tY 10 ?_
    try simp only [Act.put,qZ]
    refine tY 11 ?_
    try simp only [Act.put,qZ]
    refine tY 12 ?_
    try simp only [Act.put,qZ]
    refine tY 13 ?_
    try simp only [Act.put,qZ]
    refine tY 14 ?_
    try simp only [Act.put,qZ]
    refine tY 15 ?_
    try simp only [Act.put,qZ]
    refine tR 16 fun K hK=>?_
    try simp only [qZ]
    go_simp
    go_at_call 161
    refine (HMY.out _).mono ?_
    rintro e w0 ⟨rfl,rfl⟩
    try go_wp2_with fail
    refine hK.out _ _ ?_ fun _=>?_
    ·exact kS
    clear hK K
    try simp only [Act.put,qZ]
    refine tY 17 ?_
    try simp only [Act.put,qZ]
    refine tR 18 fun K hK=>?_
    try simp only [qZ]
    go_simp
    refine hK.out _ _ ?_ fun _=>?_
    ·exact kS
    clear hK K
    try simp only [Act.put,qZ]
    refine tY 19 ?_
    try simp only [Act.put,qZ]
    refine tN 20 ?_
    try simp only [Act.put,qZ]
    refine tN 21 ?_
    try simp only [Act.put,qZ]
    refine tN 22 ?_
    try simp only [Act.put,qZ]
    refine tN 23 ?_
    try simp only [Act.put,qZ]
    refine tN 24 ?_
    try simp only [Act.put,qZ]
    refine tN 25 ?_
    try simp only [Act.put,qZ]
    refine tN 26 ?_
    try simp only [Act.put,qZ]
    refine tR 27 fun K hK=>?_
    try simp only [qZ]
    go_simp
    refine hK.out _ _ ?_ fun _=>?_
    ·exact kS
    clear hK K
    try simp only [Act.put,qZ]
    refine wpAnyH_done (by kernel_rfl) ?_ _
    go_wp2
    go_ret
    exact ⟨rfl,bX⟩
  ·have HRM:=Lib.hid hrm
   clear hrm
   obtain rfl:b=false:=by
    cases b
    ·rfl
    ·exact absurd (HB.out.1 rfl).2.2.2.1 HRM.out
   have HCA:=Lib.hid fun (w:World) hr=>rcheck_ok (n:=an) (A:=A) (ws:=aw) (w:=w) ca hr HRA.out
   have HCM:=Lib.hid fun (w:World) hr=>rcheck_bad (n:=mn) (A:=M) (ws:=mw) (w:=w) cm hr HRM.out
   go_enter Tryz.func167,Tryz.ntmps167
   go_wp2_with fail
   refine wp_region_held_drew (S:=(fun X:World=>X.cell? ⟨w.heap.size,0,none⟩=some (.int .i64 f)∧X.cell? ⟨w.heap.size,1,none⟩=some (.int .i64 p)∧X.cell? ⟨w.heap.size,2,none⟩=some (.int .i64 0)∧X.cell? ⟨w.heap.size,3,none⟩=some (.int .i64 an)∧X.cell? ⟨w.heap.size,4,none⟩=some (.slice A aw.length ca)∧X.cell? ⟨w.heap.size,5,none⟩=some (.int .i64 mn)∧X.cell? ⟨w.heap.size,6,none⟩=some (.slice M mw.length cm)∧X.cell? ⟨w.heap.size,7,none⟩=some (.bool s))) (by kernel_rfl) ?_ fun _=>?_
   ·exact kS
   refine tY 0 ?_
   try simp only [Act.put,qZ]
   refine tY 1 ?_
   try simp only [Act.put,qZ]
   refine tR 2 fun K hK=>?_
   try simp only [qZ]
   go_simp
   go_at_call 145
   refine (HCA.out _ (hA.later bX)).mono ?_
   rintro e w1 ⟨rfl,hb_w1⟩
   have hs_w1:=hb_w1.size
   (try simp only [zZ] at hs_w1)
   have mw10:w1.cell? ⟨w.heap.size,0,none⟩=some (.int .i64 f):=cX hb_w1
   have mw11:w1.cell? ⟨w.heap.size,1,none⟩=some (.int .i64 p):=cX hb_w1
   have mw12:w1.cell? ⟨w.heap.size,2,none⟩=some (.int .i64 0):=cX hb_w1
   have mw13:w1.cell? ⟨w.heap.size,3,none⟩=some (.int .i64 an):=cX hb_w1
   have mw14:w1.cell? ⟨w.heap.size,4,none⟩=some (.slice A aw.length ca):=cX hb_w1
   have mw15:w1.cell? ⟨w.heap.size,5,none⟩=some (.int .i64 mn):=cX hb_w1
   have mw16:w1.cell? ⟨w.heap.size,6,none⟩=some (.slice M mw.length cm):=cX hb_w1
   have mw17:w1.cell? ⟨w.heap.size,7,none⟩=some (.bool s):=cX hb_w1
   try go_wp2_with fail
   refine hK.out _ _ ?_ fun _=>?_
   ·exact kS
   clear hK K
   try simp only [Act.put,qZ]
   refine tY 3 ?_
   try simp only [Act.put,qZ]
   refine tY 4 ?_
   try simp only [Act.put,qZ]
   refine tY 5 ?_
   try simp only [Act.put,qZ]
   refine tY 6 ?_
   try simp only [Act.put,qZ]
   refine tR 7 fun K hK=>?_
   try simp only [qZ]
   go_simp
   go_at_call 145
   refine (HCM.out _ (hM.later bX)).mono ?_
   rintro e w2 ⟨rfl,hb_w2⟩
   have hs_w2:=hb_w2.size
   (try simp only [zZ] at hs_w2)
   have mw20:w2.cell? ⟨w.heap.size,0,none⟩=some (.int .i64 f):=cX hb_w2
   have mw21:w2.cell? ⟨w.heap.size,1,none⟩=some (.int .i64 p):=cX hb_w2
   have mw22:w2.cell? ⟨w.heap.size,2,none⟩=some (.int .i64 0):=cX hb_w2
   have mw23:w2.cell? ⟨w.heap.size,3,none⟩=some (.int .i64 an):=cX hb_w2
   have mw24:w2.cell? ⟨w.heap.size,4,none⟩=some (.slice A aw.length ca):=cX hb_w2
   have mw25:w2.cell? ⟨w.heap.size,5,none⟩=some (.int .i64 mn):=cX hb_w2
   have mw26:w2.cell? ⟨w.heap.size,6,none⟩=some (.slice M mw.length cm):=cX hb_w2
   have mw27:w2.cell? ⟨w.heap.size,7,none⟩=some (.bool s):=cX hb_w2
   try go_wp2_with fail
   refine hK.out _ _ ?_ fun _=>?_
   ·exact kS
   clear hK K
   try simp only [Act.put,qZ]
   refine tY 8 ?_
   try simp only [Act.put,qZ]
   refine tR 9 fun K hK=>?_
   try simp only [qZ]
   go_simp
   refine hK.out _ _ ?_ fun _=>?_
   ·exact kS
   clear hK K
   try simp only [Act.put,qZ]
   refine tY 10 ?_
   try simp only [Act.put,qZ]
   refine tN 11 ?_
   try simp only [Act.put,qZ]
   refine tN 12 ?_
   try simp only [Act.put,qZ]
   refine tN 13 ?_
   try simp only [Act.put,qZ]
   refine tN 14 ?_
   try simp only [Act.put,qZ]
   refine tN 15 ?_
   try simp only [Act.put,qZ]
   refine tN 16 ?_
   try simp only [Act.put,qZ]
   refine tN 17 ?_
   try simp only [Act.put,qZ]
   refine tR 18 fun K hK=>?_
   try simp only [qZ]
   go_simp
   refine hK.out _ _ ?_ fun _=>?_
   ·exact kS
   clear hK K
   try simp only [Act.put,qZ]
   refine tY 19 ?_
   try simp only [Act.put,qZ]
   refine tN 20 ?_
   try simp only [Act.put,qZ]
   refine tN 21 ?_
   try simp only [Act.put,qZ]
   refine tN 22 ?_
   try simp only [Act.put,qZ]
   refine tN 23 ?_
   try simp only [Act.put,qZ]
   refine tN 24 ?_
   try simp only [Act.put,qZ]
   refine tN 25 ?_
   try simp only [Act.put,qZ]
   refine tN 26 ?_
   try simp only [Act.put,qZ]
   refine tR 27 fun K hK=>?_
   try simp only [qZ]
   go_simp
   refine hK.out _ _ ?_ fun _=>?_
   ·exact kS
   clear hK K
   try simp only [Act.put,qZ]
   refine wpAnyH_done (by kernel_rfl) ?_ _
   go_wp2
   go_ret
   exact ⟨rfl,bX⟩
 ·have HRA:=Lib.hid hra
  clear hra
  obtain rfl:b=false:=by
   cases b
   ·rfl
   ·exact absurd (HB.out.1 rfl).2.2.1 HRA.out
  have HCA:=Lib.hid fun (w:World) hr=>rcheck_bad (n:=an) (A:=A) (ws:=aw) (w:=w) ca hr HRA.out
  go_enter Tryz.func167,Tryz.ntmps167
  go_wp2_with fail
  refine wp_region_held_drew (S:=(fun X:World=>X.cell? ⟨w.heap.size,0,none⟩=some (.int .i64 f)∧X.cell? ⟨w.heap.size,1,none⟩=some (.int .i64 p)∧X.cell? ⟨w.heap.size,2,none⟩=some (.int .i64 0)∧X.cell? ⟨w.heap.size,3,none⟩=some (.int .i64 an)∧X.cell? ⟨w.heap.size,4,none⟩=some (.slice A aw.length ca)∧X.cell? ⟨w.heap.size,5,none⟩=some (.int .i64 mn)∧X.cell? ⟨w.heap.size,6,none⟩=some (.slice M mw.length cm)∧X.cell? ⟨w.heap.size,7,none⟩=some (.bool s))) (by kernel_rfl) ?_ fun _=>?_
  ·exact kS
  refine tY 0 ?_
  try simp only [Act.put,qZ]
  refine tY 1 ?_
  try simp only [Act.put,qZ]
  refine tR 2 fun K hK=>?_
  try simp only [qZ]
  go_simp
  go_at_call 145
  refine (HCA.out _ (hA.later bX)).mono ?_
  rintro e w1 ⟨rfl,hb_w1⟩
  have hs_w1:=hb_w1.size
  (try simp only [zZ] at hs_w1)
  have mw10:w1.cell? ⟨w.heap.size,0,none⟩=some (.int .i64 f):=cX hb_w1
  have mw11:w1.cell? ⟨w.heap.size,1,none⟩=some (.int .i64 p):=cX hb_w1
  have mw12:w1.cell? ⟨w.heap.size,2,none⟩=some (.int .i64 0):=cX hb_w1
  have mw13:w1.cell? ⟨w.heap.size,3,none⟩=some (.int .i64 an):=cX hb_w1
  have mw14:w1.cell? ⟨w.heap.size,4,none⟩=some (.slice A aw.length ca):=cX hb_w1
  have mw15:w1.cell? ⟨w.heap.size,5,none⟩=some (.int .i64 mn):=cX hb_w1
  have mw16:w1.cell? ⟨w.heap.size,6,none⟩=some (.slice M mw.length cm):=cX hb_w1
  have mw17:w1.cell? ⟨w.heap.size,7,none⟩=some (.bool s):=cX hb_w1
  try go_wp2_with fail
  refine hK.out _ _ ?_ fun _=>?_
  ·exact kS
  clear hK K
  try simp only [Act.put,qZ]
  refine tY 3 ?_
  try simp only [Act.put,qZ]
  refine tY 4 ?_
  try simp only [Act.put,qZ]
  refine tN 5 ?_
  try simp only [Act.put,qZ]
  refine tN 6 ?_
  try simp only [Act.put,qZ]
  refine tN 7 ?_
  try simp only [Act.put,qZ]
  refine tN 8 ?_
  try simp only [Act.put,qZ]
  refine tR 9 fun K hK=>?_
  try simp only [qZ]
  go_simp
  refine hK.out _ _ ?_ fun _=>?_
  ·exact kS
  clear hK K
  try simp only [Act.put,qZ]
  refine tY 10 ?_
  try simp only [Act.put,qZ]
  refine tN 11 ?_
  try simp only [Act.put,qZ]
  refine tN 12 ?_
  try simp only [Act.put,qZ]
  refine tN 13 ?_
  try simp only [Act.put,qZ]
  refine tN 14 ?_
  try simp only [Act.put,qZ]
  refine tN 15 ?_
  try simp only [Act.put,qZ]
  refine tN 16 ?_
  try simp only [Act.put,qZ]
  refine tN 17 ?_
  try simp only [Act.put,qZ]
  refine tR 18 fun K hK=>?_
  try simp only [qZ]
  go_simp
  refine hK.out _ _ ?_ fun _=>?_
  ·exact kS
  clear hK K
  try simp only [Act.put,qZ]
  refine tY 19 ?_
  try simp only [Act.put,qZ]
  refine tN 20 ?_
  try simp only [Act.put,qZ]
  refine tN 21 ?_
  try simp only [Act.put,qZ]
  refine tN 22 ?_
  try simp only [Act.put,qZ]
  refine tN 23 ?_
  try simp only [Act.put,qZ]
  refine tN 24 ?_
  try simp only [Act.put,qZ]
  refine tN 25 ?_
  try simp only [Act.put,qZ]
  refine tN 26 ?_
  try simp only [Act.put,qZ]
  refine tR 27 fun K hK=>?_
  try simp only [qZ]
  go_simp
  refine hK.out _ _ ?_ fun _=>?_
  ·exact kS
  clear hK K
  try simp only [Act.put,qZ]
  refine wpAnyH_done (by kernel_rfl) ?_ _
  go_wp2
  go_ret
  exact ⟨rfl,bX⟩
end
section
variable {w:World} {A M:Option Addr} (ca cm:Nat)
set_option maxHeartbeats 16000000 in
theorem xright_zN (z:Int) (N:Nat) (hz:(z=2∧N=8) ∨ (z=4∧N=4) ∨ (z=8∧N=2) ∨ (z=16∧N=1)) (f an:Int) (aw:List Nat) (mn:Int) (mw:List Nat) (s:Bool) (hpl:Placed f 1) (hA:Row w w.heap.size A aw) (hM:Row w w.heap.size M mw) (b:Bool) (hb:b=true ↔ Rec ⟨f,1,z,an,aw,mn,mw,s⟩) :
  Calls Tryz.prog 167 #[.agg #[.int .i64 f,.int .i64 1,.int .i64 z,.int .i64 an,.slice A aw.length ca,.int .i64 mn,.slice M mw.length cm,.bool s]] w fun e w'=>e=.returned (.bool b)∧Below w.heap.size w w':=by
 unfold Placed at hpl
 obtain ⟨p0,p1⟩:=hpl
 have d1:decide (f < 0)=false:=decide_eq_false (by omega)
 have d2:decide ((1024:Int) - 1 < f)=false:=decide_eq_false (by omega)
 have d5:decide ((1023:Int) < f)=false:=decide_eq_false (by omega)
 have hslots:slotsOf z=(N:Int):=by rcases hz with ⟨rfl,rfl⟩ | ⟨rfl,rfl⟩ | ⟨rfl,rfl⟩ | ⟨rfl,rfl⟩ <;> decide
 have hN1:1 ≤ N:=by omega
 have hN8:N ≤ 8:=by omega
 unfold Rec at hb
 simp only [hslots,Int.toNat_natCast] at hb
 have HB:=Lib.hid hb
 have HMY:=Lib.hid fun (w:World)=>xmany_any (w:=w) (p:=1) (z:=z) (by unfold Sized;omega)
 rw [hslots] at HMY
 clear hb
 have g0:(z == (0:Int))=false:=by rcases hz with ⟨rfl,_⟩ | ⟨rfl,_⟩ | ⟨rfl,_⟩ | ⟨rfl,_⟩ <;> rfl
 have key:((z == (2:Int))=true) ∨ ((z == (2:Int))=false∧(z == (4:Int))=true) ∨ ((z == (2:Int))=false∧(z == (4:Int))=false∧(z == (8:Int))=true) ∨ ((z == (2:Int))=false∧(z == (4:Int))=false∧(z == (8:Int))=false∧(z == (16:Int))=true):=by
  rcases hz with ⟨rfl,_⟩ | ⟨rfl,_⟩ | ⟨rfl,_⟩ | ⟨rfl,_⟩ <;> decide
 clear hz hslots
 rcases key with g2 | ⟨g2,g4⟩ | ⟨g2,g4,g8⟩ | ⟨g2,g4,g8,g16⟩
 all_goals
  by_cases hra:Right an aw
  ·have HRA:=Lib.hid hra
   clear hra
   by_cases hrm:Right mn mw
   ·have HRM:=Lib.hid hrm
    clear hrm
    by_cases ha:an=N
    ·subst ha
     by_cases hm:mn=N
     ·subst hm
      have HSUB:Hid (b=true ↔ ∀ i,i < N → tb mw i=true → tb aw i=true):=Lib.hid ⟨fun h=>(HB.out.1 h).2.2.2.2,fun h=>HB.out.2 ⟨rfl,rfl,HRA.out,HRM.out,h⟩⟩
      have la:aw.length=1:=by have:=HRA.out.2.2.1;omega
      have lm:mw.length=1:=by have:=HRM.out.2.2.1;omega
      have HLA:=Lib.hid la
      have HLM:=Lib.hid lm
      clear la lm
      have HCA:=Lib.hid fun (w:World) hr=>rcheck_ok (n:=N) (A:=A) (ws:=aw) (w:=w) ca hr HRA.out
      have HCM:=Lib.hid fun (w:World) hr=>rcheck_ok (n:=N) (A:=M) (ws:=mw) (w:=w) cm hr HRM.out
      go_enter Tryz.func167,Tryz.ntmps167
      go_wp2_with fail
      refine wp_region_held_drew (S:=(fun X:World=>X.cell? ⟨w.heap.size,0,none⟩=some (.int .i64 f)∧X.cell? ⟨w.heap.size,1,none⟩=some (.int .i64 1)∧X.cell? ⟨w.heap.size,2,none⟩=some (.int .i64 z)∧X.cell? ⟨w.heap.size,3,none⟩=some (.int .i64 N)∧X.cell? ⟨w.heap.size,4,none⟩=some (.slice A aw.length ca)∧X.cell? ⟨w.heap.size,5,none⟩=some (.int .i64 N)∧X.cell? ⟨w.heap.size,6,none⟩=some (.slice M mw.length cm)∧X.cell? ⟨w.heap.size,7,none⟩=some (.bool s))) (by kernel_rfl) ?_ fun _=>?_
      ·exact kS
      refine tY 0 ?_
      try simp only [Act.put,qZ]
      refine tY 1 ?_
      try simp only [Act.put,qZ]
      refine tR 2 fun K hK=>?_
      try simp only [qZ]
      go_simp
      go_at_call 145
      refine (HCA.out _ (hA.later bX)).mono ?_
      rintro e w1 ⟨rfl,hb_w1⟩
      have hs_w1:=hb_w1.size
      (try simp only [zZ] at hs_w1)
      have mw10:w1.cell? ⟨w.heap.size,0,none⟩=some (.int .i64 f):=cX hb_w1
      have mw11:w1.cell? ⟨w.heap.size,1,none⟩=some (.int .i64 1):=cX hb_w1
      have mw12:w1.cell? ⟨w.heap.size,2,none⟩=some (.int .i64 z):=cX hb_w1
      have mw13:w1.cell? ⟨w.heap.size,3,none⟩=some (.int .i64 N):=cX hb_w1
      have mw14:w1.cell? ⟨w.heap.size,4,none⟩=some (.slice A aw.length ca):=cX hb_w1
      have mw15:w1.cell? ⟨w.heap.size,5,none⟩=some (.int .i64 N):=cX hb_w1
      have mw16:w1.cell? ⟨w.heap.size,6,none⟩=some (.slice M mw.length cm):=cX hb_w1
      have mw17:w1.cell? ⟨w.heap.size,7,none⟩=some (.bool s):=cX hb_w1
      try go_wp2_with fail
      refine hK.out _ _ ?_ fun _=>?_
      ·exact kS
      clear hK K
      try simp only [Act.put,qZ]
      refine tY 3 ?_
      try simp only [Act.put,qZ]
      refine tY 4 ?_
      try simp only [Act.put,qZ]
      refine tY 5 ?_
      try simp only [Act.put,qZ]
      refine tY 6 ?_
      try simp only [Act.put,qZ]
      refine tR 7 fun K hK=>?_
      try simp only [qZ]
      go_simp
      go_at_call 145
      refine (HCM.out _ (hM.later bX)).mono ?_
      rintro e w2 ⟨rfl,hb_w2⟩
      have hs_w2:=hb_w2.size
      (try simp only [zZ] at hs_w2)
      have mw20:w2.cell? ⟨w.heap.size,0,none⟩=some (.int .i64 f):=cX hb_w2
      have mw21:w2.cell? ⟨w.heap.size,1,none⟩=some (.int .i64 1):=cX hb_w2
      have mw22:w2.cell? ⟨w.heap.size,2,none⟩=some (.int .i64 z):=cX hb_w2
      have mw23:w2.cell? ⟨w.heap.size,3,none⟩=some (.int .i64 N):=cX hb_w2
      have mw24:w2.cell? ⟨w.heap.size,4,none⟩=some (.slice A aw.length ca):=cX hb_w2
      have mw25:w2.cell? ⟨w.heap.size,5,none⟩=some (.int .i64 N):=cX hb_w2
      have mw26:w2.cell? ⟨w.heap.size,6,none⟩=some (.slice M mw.length cm):=cX hb_w2
      have mw27:w2.cell? ⟨w.heap.size,7,none⟩=some (.bool s):=cX hb_w2
      try go_wp2_with fail
      refine hK.out _ _ ?_ fun _=>?_
      ·exact kS
      clear hK K
      try simp only [Act.put,qZ]
      refine tY 8 ?_
      try simp only [Act.put,qZ]
      refine tR 9 fun K hK=>?_
      try simp only [qZ]
      go_simp
      refine hK.out _ _ ?_ fun _=>?_
      ·exact kS
      clear hK K
      try simp only [Act.put,qZ]
      refine tY 10 ?_
      try simp only [Act.put,qZ]
      refine tY 11 ?_
      try simp only [Act.put,qZ]
      refine tY 12 ?_
      try simp only [Act.put,qZ]
      refine tY 13 ?_
      try simp only [Act.put,qZ]
      refine tY 14 ?_
      try simp only [Act.put,qZ]
      refine tY 15 ?_
      try simp only [Act.put,qZ]
      refine tR 16 fun K hK=>?_
      try simp only [qZ]
      go_simp
      go_at_call 161
      refine (HMY.out _).mono ?_
      rintro e w0 ⟨rfl,rfl⟩
      try go_wp2_with fail
      refine hK.out _ _ ?_ fun _=>?_
      ·exact kS
      clear hK K
      try simp only [Act.put,qZ]
      refine tY 17 ?_
      try simp only [Act.put,qZ]
      refine tR 18 fun K hK=>?_
      try simp only [qZ]
      go_simp
      refine hK.out _ _ ?_ fun _=>?_
      ·exact kS
      clear hK K
      try simp only [Act.put,qZ]
      refine tY 19 ?_
      try simp only [Act.put,qZ]
      refine tY 20 ?_
      try simp only [Act.put,qZ]
      refine tY 21 ?_
      try simp only [Act.put,qZ]
      refine tY 22 ?_
      try simp only [Act.put,qZ]
      refine tY 23 ?_
      try simp only [Act.put,qZ]
      refine tY 24 ?_
      try simp only [Act.put,qZ]
      refine tR 25 fun K hK=>?_
      try simp only [qZ]
      go_simp
      go_at_call 161
      refine (HMY.out _).mono ?_
      rintro e w0 ⟨rfl,rfl⟩
      try go_wp2_with fail
      refine hK.out _ _ ?_ fun _=>?_
      ·exact kS
      clear hK K
      try simp only [Act.put,qZ]
      refine tY 26 ?_
      try simp only [Act.put,qZ]
      refine tR 27 fun K hK=>?_
      try simp only [qZ]
      go_simp
      refine hK.out _ _ ?_ fun _=>?_
      ·exact kS
      clear hK K
      try simp only [Act.put,qZ]
      refine wpAnyH_done (by kernel_rfl) ?_ _
      go_wp2_with fail
      go_loopw [5] (fun ii wr=>∃ k:Nat,ii=.int .i64 (k:Nat)∧k ≤ N∧Hid (∀ i,i < k → tb mw i=true → tb aw i=true)∧wr.cell? ⟨w.heap.size,3,none⟩=some (.int .i64 N)∧wr.cell? ⟨w.heap.size,4,none⟩=some (.slice A aw.length ca)∧wr.cell? ⟨w.heap.size,5,none⟩=some (.int .i64 N)∧wr.cell? ⟨w.heap.size,6,none⟩=some (.slice M mw.length cm)∧w.heap.size + 1 ≤ wr.heap.size∧Below w.heap.size w wr) (fun ii _=>N - (intOf ii).toNat)
      case atStart=>exact ⟨0,rfl,by omega,Lib.hid (fun i hi=>by omega),by first | assumption | (simp;assumption),by first | assumption | (simp;assumption),by first | assumption | (simp;assumption),by first | assumption | (simp;assumption),lX,bX⟩
      case round=>
       obtain ⟨k,rfl,hk,hS,q3,q4,q5,q6,hsz,hb_wr⟩:=hrel
       have hsr:=hb_wr.size
       have rA:=hA.later hb_wr
       have rM:=hM.later hb_wr
       by_cases hlt:k < N
       ·have i1:(k:Int) < N:=by omega
        obtain ⟨bm,hbm⟩:∃ x,Hid (tb mw k=x):=⟨_,rfl⟩
        obtain ⟨ba,hba⟩:∃ x,Hid (tb aw k=x):=⟨_,rfl⟩
        have HIM:=Lib.hid fun (w:World) hr=>is_any (A:=M) (ws:=mw) (w:=w) (k:Nat) N cm hr (by omega) (by rw [HLM.out];omega) (by rw [HLM.out];omega)
        have HIA:=Lib.hid fun (w:World) hr=>is_any (A:=A) (ws:=aw) (w:=w) (k:Nat) N ca hr (by omega) (by rw [HLA.out];omega) (by rw [HLA.out];omega)
        simp only [Int.toNat_natCast] at HIM HIA
        rw [hbm.out] at HIM
        rw [hba.out] at HIA
        cases bm
        ·go_wp2_with (go_at_call 107;refine (HIM.out _ (rM.later bX)).mono ?_;rintro e w5 ⟨rfl,hb_w5⟩;have hs5:=hb_w5.size)
         go_roundw
         case rel=>exact ⟨k + 1,by go_num,by omega,Lib.hid (fun i hi h=>by
           by_cases e:i=k
           ·subst e;rw [hbm.out] at h;cases h
           ·exact hS.out i (by omega) h),(hb_w5.cell lX).trans q3,(hb_w5.cell lX).trans q4,(hb_w5.cell lX).trans q5,(hb_w5.cell lX).trans q6,lX,bX⟩
         case measure=>simp [intOf];omega
        ·cases ba
         ·obtain rfl:b=false:=by
           cases b
           ·rfl
           ·have:=HSUB.out.1 rfl k hlt hbm.out
            rw [hba.out] at this
            cases this
          go_wp2_with fail
          go_at_call 107
          refine (HIM.out _ (rM.later bX)).mono ?_
          rintro e w5 ⟨rfl,hb_w5⟩
          have hs5:=hb_w5.size
          have x3:=(hb_w5.cell lX).trans q3
          have x4:=(hb_w5.cell lX).trans q4
          go_wp2_with fail
          go_at_call 107
          refine (HIA.out _ ((rA.later hb_w5).later bX)).mono ?_
          rintro e w6 ⟨rfl,hb_w6⟩
          have hs6:=hb_w6.size
          go_wp2
          go_ret
          exact ⟨rfl,bX⟩
         ·go_wp2_with fail
          go_at_call 107
          refine (HIM.out _ (rM.later bX)).mono ?_
          rintro e w5 ⟨rfl,hb_w5⟩
          have hs5:=hb_w5.size
          have x3:=(hb_w5.cell lX).trans q3
          have x4:=(hb_w5.cell lX).trans q4
          have x5:=(hb_w5.cell lX).trans q5
          have x6:=(hb_w5.cell lX).trans q6
          go_wp2_with fail
          go_at_call 107
          refine (HIA.out _ ((rA.later hb_w5).later bX)).mono ?_
          rintro e w6 ⟨rfl,hb_w6⟩
          have hs6:=hb_w6.size
          go_wp2
          go_roundw
          case rel=>exact ⟨k + 1,by go_num,by omega,Lib.hid (fun i hi h=>by
            by_cases e:i=k
            ·subst e;exact hba.out
            ·exact hS.out i (by omega) h),(hb_w6.cell lX).trans x3,(hb_w6.cell lX).trans x4,(hb_w6.cell lX).trans x5,(hb_w6.cell lX).trans x6,lX,bX⟩
          case measure=>simp [intOf];omega
       ·obtain rfl:k=N:=by omega
        obtain rfl:b=true:=HSUB.out.2 hS.out
        go_wp2
        go_ret
        exact ⟨rfl,bX⟩
     ·have HNE:=Lib.hid hm
      have nm:(mn != N)=true:=by simpa using hm
      clear hm
      obtain rfl:b=false:=by
       cases b
       ·rfl
       ·exact absurd (HB.out.1 rfl).2.1 HNE.out
      have HCA:=Lib.hid fun (w:World) hr=>rcheck_ok (n:=N) (A:=A) (ws:=aw) (w:=w) ca hr HRA.out
      have HCM:=Lib.hid fun (w:World) hr=>rcheck_ok (n:=mn) (A:=M) (ws:=mw) (w:=w) cm hr HRM.out
      go_enter Tryz.func167,Tryz.ntmps167
      go_wp2_with fail
      refine wp_region_held_drew (S:=(fun X:World=>X.cell? ⟨w.heap.size,0,none⟩=some (.int .i64 f)∧X.cell? ⟨w.heap.size,1,none⟩=some (.int .i64 1)∧X.cell? ⟨w.heap.size,2,none⟩=some (.int .i64 z)∧X.cell? ⟨w.heap.size,3,none⟩=some (.int .i64 N)∧X.cell? ⟨w.heap.size,4,none⟩=some (.slice A aw.length ca)∧X.cell? ⟨w.heap.size,5,none⟩=some (.int .i64 mn)∧X.cell? ⟨w.heap.size,6,none⟩=some (.slice M mw.length cm)∧X.cell? ⟨w.heap.size,7,none⟩=some (.bool s))) (by kernel_rfl) ?_ fun _=>?_
      ·exact kS
      refine tY 0 ?_
      try simp only [Act.put,qZ]
      refine tY 1 ?_
      try simp only [Act.put,qZ]
      refine tR 2 fun K hK=>?_
      try simp only [qZ]
      go_simp
      go_at_call 145
      refine (HCA.out _ (hA.later bX)).mono ?_
      rintro e w1 ⟨rfl,hb_w1⟩
      have hs_w1:=hb_w1.size
      (try simp only [zZ] at hs_w1)
      have mw10:w1.cell? ⟨w.heap.size,0,none⟩=some (.int .i64 f):=cX hb_w1
      have mw11:w1.cell? ⟨w.heap.size,1,none⟩=some (.int .i64 1):=cX hb_w1
      have mw12:w1.cell? ⟨w.heap.size,2,none⟩=some (.int .i64 z):=cX hb_w1
      have mw13:w1.cell? ⟨w.heap.size,3,none⟩=some (.int .i64 N):=cX hb_w1
      have mw14:w1.cell? ⟨w.heap.size,4,none⟩=some (.slice A aw.length ca):=cX hb_w1
      have mw15:w1.cell? ⟨w.heap.size,5,none⟩=some (.int .i64 mn):=cX hb_w1
      have mw16:w1.cell? ⟨w.heap.size,6,none⟩=some (.slice M mw.length cm):=cX hb_w1
      have mw17:w1.cell? ⟨w.heap.size,7,none⟩=some (.bool s):=cX hb_w1
      try go_wp2_with fail
      refine hK.out _ _ ?_ fun _=>?_
      ·exact kS
      clear hK K
      try simp only [Act.put,qZ]
      refine tY 3 ?_
      try simp only [Act.put,qZ]
      refine tY 4 ?_
      try simp only [Act.put,qZ]
      refine tY 5 ?_
      try simp only [Act.put,qZ]
      refine tY 6 ?_
      try simp only [Act.put,qZ]
      refine tR 7 fun K hK=>?_
      try simp only [qZ]
      go_simp
      go_at_call 145
      refine (HCM.out _ (hM.later bX)).mono ?_
      rintro e w2 ⟨rfl,hb_w2⟩
      have hs_w2:=hb_w2.size
      (try simp only [zZ] at hs_w2)
      have mw20:w2.cell? ⟨w.heap.size,0,none⟩=some (.int .i64 f):=cX hb_w2
      have mw21:w2.cell? ⟨w.heap.size,1,none⟩=some (.int .i64 1):=cX hb_w2
      have mw22:w2.cell? ⟨w.heap.size,2,none⟩=some (.int .i64 z):=cX hb_w2
      have mw23:w2.cell? ⟨w.heap.size,3,none⟩=some (.int .i64 N):=cX hb_w2
      have mw24:w2.cell? ⟨w.heap.size,4,none⟩=some (.slice A aw.length ca):=cX hb_w2
      have mw25:w2.cell? ⟨w.heap.size,5,none⟩=some (.int .i64 mn):=cX hb_w2
      have mw26:w2.cell? ⟨w.heap.size,6,none⟩=some (.slice M mw.length cm):=cX hb_w2
      have mw27:w2.cell? ⟨w.heap.size,7,none⟩=some (.bool s):=cX hb_w2
      try go_wp2_with fail
      refine hK.out _ _ ?_ fun _=>?_
      ·exact kS
      clear hK K
      try simp only [Act.put,qZ]
      refine tY 8 ?_
      try simp only [Act.put,qZ]
      refine tR 9 fun K hK=>?_
      try simp only [qZ]
      go_simp
      refine hK.out _ _ ?_ fun _=>?_
      ·exact kS
      clear hK K
      try simp only [Act.put,qZ]
      refine tY 10 ?_
      try simp only [Act.put,qZ]
      refine tY 11 ?_
      try simp only [Act.put,qZ]
      refine tY 12 ?_
      try simp only [Act.put,qZ]
      refine tY 13 ?_
      try simp only [Act.put,qZ]
      refine tY 14 ?_
      try simp only [Act.put,qZ]
      refine tY 15 ?_
      try simp only [Act.put,qZ]
      refine tR 16 fun K hK=>?_
      try simp only [qZ]
      go_simp
      go_at_call 161
      refine (HMY.out _).mono ?_
      rintro e w0 ⟨rfl,rfl⟩
      try go_wp2_with fail
      refine hK.out _ _ ?_ fun _=>?_
      ·exact kS
      clear hK K
      try simp only [Act.put,qZ]
      refine tY 17 ?_
      try simp only [Act.put,qZ]
      refine tR 18 fun K hK=>?_
      try simp only [qZ]
      go_simp
      refine hK.out _ _ ?_ fun _=>?_
      ·exact kS
      clear hK K
      try simp only [Act.put,qZ]
      refine tY 19 ?_
      try simp only [Act.put,qZ]
      refine tY 20 ?_
      try simp only [Act.put,qZ]
      refine tY 21 ?_
      try simp only [Act.put,qZ]
      refine tY 22 ?_
      try simp only [Act.put,qZ]
      refine tY 23 ?_
      try simp only [Act.put,qZ]
      refine tY 24 ?_
      try simp only [Act.put,qZ]
      refine tR 25 fun K hK=>?_
      try simp only [qZ]
      go_simp
      go_at_call 161
      refine (HMY.out _).mono ?_
      rintro e w0 ⟨rfl,rfl⟩
      try go_wp2_with fail
      refine hK.out _ _ ?_ fun _=>?_
      ·exact kS
      clear hK K
      try simp only [Act.put,qZ]
      refine tY 26 ?_
      try simp only [Act.put,qZ]
      refine tR 27 fun K hK=>?_
      try simp only [qZ]
      go_simp
      refine hK.out _ _ ?_ fun _=>?_
      ·exact kS
      clear hK K
      try simp only [Act.put,qZ]
      refine wpAnyH_done (by kernel_rfl) ?_ _
      go_wp2
      go_ret
      exact ⟨rfl,bX⟩
    ·have HNE:=Lib.hid ha
     have nm:(an != N)=true:=by simpa using ha
     clear ha
     obtain rfl:b=false:=by
      cases b
      ·rfl
      ·exact absurd (HB.out.1 rfl).1 HNE.out
     have HCA:=Lib.hid fun (w:World) hr=>rcheck_ok (n:=an) (A:=A) (ws:=aw) (w:=w) ca hr HRA.out
     have HCM:=Lib.hid fun (w:World) hr=>rcheck_ok (n:=mn) (A:=M) (ws:=mw) (w:=w) cm hr HRM.out
     go_enter Tryz.func167,Tryz.ntmps167
     go_wp2_with fail
     refine wp_region_held_drew (S:=(fun X:World=>X.cell? ⟨w.heap.size,0,none⟩=some (.int .i64 f)∧X.cell? ⟨w.heap.size,1,none⟩=some (.int .i64 1)∧X.cell? ⟨w.heap.size,2,none⟩=some (.int .i64 z)∧X.cell? ⟨w.heap.size,3,none⟩=some (.int .i64 an)∧X.cell? ⟨w.heap.size,4,none⟩=some (.slice A aw.length ca)∧X.cell? ⟨w.heap.size,5,none⟩=some (.int .i64 mn)∧X.cell? ⟨w.heap.size,6,none⟩=some (.slice M mw.length cm)∧X.cell? ⟨w.heap.size,7,none⟩=some (.bool s))) (by kernel_rfl) ?_ fun _=>?_
     ·exact kS
     refine tY 0 ?_
     try simp only [Act.put,qZ]
     refine tY 1 ?_
     try simp only [Act.put,qZ]
     refine tR 2 fun K hK=>?_
     try simp only [qZ]
     go_simp
     go_at_call 145
     refine (HCA.out _ (hA.later bX)).mono ?_
     rintro e w1 ⟨rfl,hb_w1⟩
     have hs_w1:=hb_w1.size
     (try simp only [zZ] at hs_w1)
     have mw10:w1.cell? ⟨w.heap.size,0,none⟩=some (.int .i64 f):=cX hb_w1
     have mw11:w1.cell? ⟨w.heap.size,1,none⟩=some (.int .i64 1):=cX hb_w1
     have mw12:w1.cell? ⟨w.heap.size,2,none⟩=some (.int .i64 z):=cX hb_w1
     have mw13:w1.cell? ⟨w.heap.size,3,none⟩=some (.int .i64 an):=cX hb_w1
     have mw14:w1.cell? ⟨w.heap.size,4,none⟩=some (.slice A aw.length ca):=cX hb_w1
     have mw15:w1.cell? ⟨w.heap.size,5,none⟩=some (.int .i64 mn):=cX hb_w1
     have mw16:w1.cell? ⟨w.heap.size,6,none⟩=some (.slice M mw.length cm):=cX hb_w1
     have mw17:w1.cell? ⟨w.heap.size,7,none⟩=some (.bool s):=cX hb_w1
     try go_wp2_with fail
     refine hK.out _ _ ?_ fun _=>?_
     ·exact kS
     clear hK K
     try simp only [Act.put,qZ]
     refine tY 3 ?_
     try simp only [Act.put,qZ]
     refine tY 4 ?_
     try simp only [Act.put,qZ]
     refine tY 5 ?_
     try simp only [Act.put,qZ]
     refine tY 6 ?_
     try simp only [Act.put,qZ]
     refine tR 7 fun K hK=>?_
     try simp only [qZ]
     go_simp
     go_at_call 145
     refine (HCM.out _ (hM.later bX)).mono ?_
     rintro e w2 ⟨rfl,hb_w2⟩
     have hs_w2:=hb_w2.size
     (try simp only [zZ] at hs_w2)
     have mw20:w2.cell? ⟨w.heap.size,0,none⟩=some (.int .i64 f):=cX hb_w2
     have mw21:w2.cell? ⟨w.heap.size,1,none⟩=some (.int .i64 1):=cX hb_w2
     have mw22:w2.cell? ⟨w.heap.size,2,none⟩=some (.int .i64 z):=cX hb_w2
     have mw23:w2.cell? ⟨w.heap.size,3,none⟩=some (.int .i64 an):=cX hb_w2
     have mw24:w2.cell? ⟨w.heap.size,4,none⟩=some (.slice A aw.length ca):=cX hb_w2
     have mw25:w2.cell? ⟨w.heap.size,5,none⟩=some (.int .i64 mn):=cX hb_w2
     have mw26:w2.cell? ⟨w.heap.size,6,none⟩=some (.slice M mw.length cm):=cX hb_w2
     have mw27:w2.cell? ⟨w.heap.size,7,none⟩=some (.bool s):=cX hb_w2
     try go_wp2_with fail
     refine hK.out _ _ ?_ fun _=>?_
     ·exact kS
     clear hK K
     try simp only [Act.put,qZ]
     refine tY 8 ?_
     try simp only [Act.put,qZ]
     refine tR 9 fun K hK=>?_
     try simp only [qZ]
     go_simp
     refine hK.out _ _ ?_ fun _=>?_
     ·exact kS
     clear hK K
     try simp only [Act.put,qZ]
     refine tY 10 ?_
     try simp only [Act.put,qZ]
     refine tY 11 ?_
     try simp only [Act.put,qZ]
     refine tY 12 ?_
     try simp only [Act.put,qZ]
     refine tY 13 ?_
     try simp only [Act.put,qZ]
     refine tY 14 ?_
     try simp only [Act.put,qZ]
     refine tY 15 ?_
     try simp only [Act.put,qZ]
     refine tR 16 fun K hK=>?_
     try simp only [qZ]
     go_simp
     go_at_call 161
     refine (HMY.out _).mono ?_
     rintro e w0 ⟨rfl,rfl⟩
     try go_wp2_with fail
     refine hK.out _ _ ?_ fun _=>?_
     ·exact kS
     clear hK K
     try simp only [Act.put,qZ]
     refine tY 17 ?_
     try simp only [Act.put,qZ]
     refine tR 18 fun K hK=>?_
     try simp only [qZ]
     go_simp
     refine hK.out _ _ ?_ fun _=>?_
     ·exact kS
     clear hK K
     try simp only [Act.put,qZ]
     refine tY 19 ?_
     try simp only [Act.put,qZ]
     refine tN 20 ?_
     try simp only [Act.put,qZ]
     refine tN 21 ?_
     try simp only [Act.put,qZ]
     refine tN 22 ?_
     try simp only [Act.put,qZ]
     refine tN 23 ?_
     try simp only [Act.put,qZ]
     refine tN 24 ?_
     try simp only [Act.put,qZ]
     refine tN 25 ?_
     try simp only [Act.put,qZ]
     refine tN 26 ?_
     try simp only [Act.put,qZ]
     refine tR 27 fun K hK=>?_
     try simp only [qZ]
     go_simp
     refine hK.out _ _ ?_ fun _=>?_
     ·exact kS
     clear hK K
     try simp only [Act.put,qZ]
     refine wpAnyH_done (by kernel_rfl) ?_ _
     go_wp2
     go_ret
     exact ⟨rfl,bX⟩
   ·have HRM:=Lib.hid hrm
    clear hrm
    obtain rfl:b=false:=by
     cases b
     ·rfl
     ·exact absurd (HB.out.1 rfl).2.2.2.1 HRM.out
    have HCA:=Lib.hid fun (w:World) hr=>rcheck_ok (n:=an) (A:=A) (ws:=aw) (w:=w) ca hr HRA.out
    have HCM:=Lib.hid fun (w:World) hr=>rcheck_bad (n:=mn) (A:=M) (ws:=mw) (w:=w) cm hr HRM.out
    go_enter Tryz.func167,Tryz.ntmps167
    go_wp2_with fail
    refine wp_region_held_drew (S:=(fun X:World=>X.cell? ⟨w.heap.size,0,none⟩=some (.int .i64 f)∧X.cell? ⟨w.heap.size,1,none⟩=some (.int .i64 1)∧X.cell? ⟨w.heap.size,2,none⟩=some (.int .i64 z)∧X.cell? ⟨w.heap.size,3,none⟩=some (.int .i64 an)∧X.cell? ⟨w.heap.size,4,none⟩=some (.slice A aw.length ca)∧X.cell? ⟨w.heap.size,5,none⟩=some (.int .i64 mn)∧X.cell? ⟨w.heap.size,6,none⟩=some (.slice M mw.length cm)∧X.cell? ⟨w.heap.size,7,none⟩=some (.bool s))) (by kernel_rfl) ?_ fun _=>?_
    ·exact kS
    refine tY 0 ?_
    try simp only [Act.put,qZ]
    refine tY 1 ?_
    try simp only [Act.put,qZ]
    refine tR 2 fun K hK=>?_
    try simp only [qZ]
    go_simp
    go_at_call 145
    refine (HCA.out _ (hA.later bX)).mono ?_
    rintro e w1 ⟨rfl,hb_w1⟩
    have hs_w1:=hb_w1.size
    (try simp only [zZ] at hs_w1)
    have mw10:w1.cell? ⟨w.heap.size,0,none⟩=some (.int .i64 f):=cX hb_w1
    have mw11:w1.cell? ⟨w.heap.size,1,none⟩=some (.int .i64 1):=cX hb_w1
    have mw12:w1.cell? ⟨w.heap.size,2,none⟩=some (.int .i64 z):=cX hb_w1
    have mw13:w1.cell? ⟨w.heap.size,3,none⟩=some (.int .i64 an):=cX hb_w1
    have mw14:w1.cell? ⟨w.heap.size,4,none⟩=some (.slice A aw.length ca):=cX hb_w1
    have mw15:w1.cell? ⟨w.heap.size,5,none⟩=some (.int .i64 mn):=cX hb_w1
    have mw16:w1.cell? ⟨w.heap.size,6,none⟩=some (.slice M mw.length cm):=cX hb_w1
    have mw17:w1.cell? ⟨w.heap.size,7,none⟩=some (.bool s):=cX hb_w1
    try go_wp2_with fail
    refine hK.out _ _ ?_ fun _=>?_
    ·exact kS
    clear hK K
    try simp only [Act.put,qZ]
    refine tY 3 ?_
    try simp only [Act.put,qZ]
    refine tY 4 ?_
    try simp only [Act.put,qZ]
    refine tY 5 ?_
    try simp only [Act.put,qZ]
    refine tY 6 ?_
    try simp only [Act.put,qZ]
    refine tR 7 fun K hK=>?_
    try simp only [qZ]
    go_simp
    go_at_call 145
    refine (HCM.out _ (hM.later bX)).mono ?_
    rintro e w2 ⟨rfl,hb_w2⟩
    have hs_w2:=hb_w2.size
    (try simp only [zZ] at hs_w2)
    have mw20:w2.cell? ⟨w.heap.size,0,none⟩=some (.int .i64 f):=cX hb_w2
    have mw21:w2.cell? ⟨w.heap.size,1,none⟩=some (.int .i64 1):=cX hb_w2
    have mw22:w2.cell? ⟨w.heap.size,2,none⟩=some (.int .i64 z):=cX hb_w2
    have mw23:w2.cell? ⟨w.heap.size,3,none⟩=some (.int .i64 an):=cX hb_w2
    have mw24:w2.cell? ⟨w.heap.size,4,none⟩=some (.slice A aw.length ca):=cX hb_w2
    have mw25:w2.cell? ⟨w.heap.size,5,none⟩=some (.int .i64 mn):=cX hb_w2
    have mw26:w2.cell? ⟨w.heap.size,6,none⟩=some (.slice M mw.length cm):=cX hb_w2
    have mw27:w2.cell? ⟨w.heap.size,7,none⟩=some (.bool s):=cX hb_w2
    try go_wp2_with fail
    refine hK.out _ _ ?_ fun _=>?_
    ·exact kS
    clear hK K
    try simp only [Act.put,qZ]
    refine tY 8 ?_
    try simp only [Act.put,qZ]
    refine tR 9 fun K hK=>?_
    try simp only [qZ]
    go_simp
    refine hK.out _ _ ?_ fun _=>?_
    ·exact kS
    clear hK K
    try simp only [Act.put,qZ]
    refine tY 10 ?_
    try simp only [Act.put,qZ]
    refine tN 11 ?_
    try simp only [Act.put,qZ]
    refine tN 12 ?_
    try simp only [Act.put,qZ]
    refine tN 13 ?_
    try simp only [Act.put,qZ]
    refine tN 14 ?_
    try simp only [Act.put,qZ]
    refine tN 15 ?_
    try simp only [Act.put,qZ]
    refine tN 16 ?_
    try simp only [Act.put,qZ]
    refine tN 17 ?_
    try simp only [Act.put,qZ]
    refine tR 18 fun K hK=>?_
    try simp only [qZ]
    go_simp
    refine hK.out _ _ ?_ fun _=>?_
    ·exact kS
    clear hK K
    try simp only [Act.put,qZ]
    refine tY 19 ?_
    try simp only [Act.put,qZ]
    refine tN 20 ?_
    try simp only [Act.put,qZ]
    refine tN 21 ?_
    try simp only [Act.put,qZ]
    refine tN 22 ?_
    try simp only [Act.put,qZ]
    refine tN 23 ?_
    try simp only [Act.put,qZ]
    refine tN 24 ?_
    try simp only [Act.put,qZ]
    refine tN 25 ?_
    try simp only [Act.put,qZ]
    refine tN 26 ?_
    try simp only [Act.put,qZ]
    refine tR 27 fun K hK=>?_
    try simp only [qZ]
    go_simp
    refine hK.out _ _ ?_ fun _=>?_
    ·exact kS
    clear hK K
    try simp only [Act.put,qZ]
    refine wpAnyH_done (by kernel_rfl) ?_ _
    go_wp2
    go_ret
    exact ⟨rfl,bX⟩
  ·have HRA:=Lib.hid hra
   clear hra
   obtain rfl:b=false:=by
    cases b
    ·rfl
    ·exact absurd (HB.out.1 rfl).2.2.1 HRA.out
   have HCA:=Lib.hid fun (w:World) hr=>rcheck_bad (n:=an) (A:=A) (ws:=aw) (w:=w) ca hr HRA.out
   go_enter Tryz.func167,Tryz.ntmps167
   go_wp2_with fail
   refine wp_region_held_drew (S:=(fun X:World=>X.cell? ⟨w.heap.size,0,none⟩=some (.int .i64 f)∧X.cell? ⟨w.heap.size,1,none⟩=some (.int .i64 1)∧X.cell? ⟨w.heap.size,2,none⟩=some (.int .i64 z)∧X.cell? ⟨w.heap.size,3,none⟩=some (.int .i64 an)∧X.cell? ⟨w.heap.size,4,none⟩=some (.slice A aw.length ca)∧X.cell? ⟨w.heap.size,5,none⟩=some (.int .i64 mn)∧X.cell? ⟨w.heap.size,6,none⟩=some (.slice M mw.length cm)∧X.cell? ⟨w.heap.size,7,none⟩=some (.bool s))) (by kernel_rfl) ?_ fun _=>?_
   ·exact kS
   refine tY 0 ?_
   try simp only [Act.put,qZ]
   refine tY 1 ?_
   try simp only [Act.put,qZ]
   refine tR 2 fun K hK=>?_
   try simp only [qZ]
   go_simp
   go_at_call 145
   refine (HCA.out _ (hA.later bX)).mono ?_
   rintro e w1 ⟨rfl,hb_w1⟩
   have hs_w1:=hb_w1.size
   (try simp only [zZ] at hs_w1)
   have mw10:w1.cell? ⟨w.heap.size,0,none⟩=some (.int .i64 f):=cX hb_w1
   have mw11:w1.cell? ⟨w.heap.size,1,none⟩=some (.int .i64 1):=cX hb_w1
   have mw12:w1.cell? ⟨w.heap.size,2,none⟩=some (.int .i64 z):=cX hb_w1
   have mw13:w1.cell? ⟨w.heap.size,3,none⟩=some (.int .i64 an):=cX hb_w1
   have mw14:w1.cell? ⟨w.heap.size,4,none⟩=some (.slice A aw.length ca):=cX hb_w1
   have mw15:w1.cell? ⟨w.heap.size,5,none⟩=some (.int .i64 mn):=cX hb_w1
   have mw16:w1.cell? ⟨w.heap.size,6,none⟩=some (.slice M mw.length cm):=cX hb_w1
   have mw17:w1.cell? ⟨w.heap.size,7,none⟩=some (.bool s):=cX hb_w1
   try go_wp2_with fail
   refine hK.out _ _ ?_ fun _=>?_
   ·exact kS
   clear hK K
   try simp only [Act.put,qZ]
   refine tY 3 ?_
   try simp only [Act.put,qZ]
   refine tY 4 ?_
   try simp only [Act.put,qZ]
   refine tN 5 ?_
   try simp only [Act.put,qZ]
   refine tN 6 ?_
   try simp only [Act.put,qZ]
   refine tN 7 ?_
   try simp only [Act.put,qZ]
   refine tN 8 ?_
   try simp only [Act.put,qZ]
   refine tR 9 fun K hK=>?_
   try simp only [qZ]
   go_simp
   refine hK.out _ _ ?_ fun _=>?_
   ·exact kS
   clear hK K
   try simp only [Act.put,qZ]
   refine tY 10 ?_
   try simp only [Act.put,qZ]
   refine tN 11 ?_
   try simp only [Act.put,qZ]
   refine tN 12 ?_
   try simp only [Act.put,qZ]
   refine tN 13 ?_
   try simp only [Act.put,qZ]
   refine tN 14 ?_
   try simp only [Act.put,qZ]
   refine tN 15 ?_
   try simp only [Act.put,qZ]
   refine tN 16 ?_
   try simp only [Act.put,qZ]
   refine tN 17 ?_
   try simp only [Act.put,qZ]
   refine tR 18 fun K hK=>?_
   try simp only [qZ]
   go_simp
   refine hK.out _ _ ?_ fun _=>?_
   ·exact kS
   clear hK K
   try simp only [Act.put,qZ]
   refine tY 19 ?_
   try simp only [Act.put,qZ]
   refine tN 20 ?_
   try simp only [Act.put,qZ]
   refine tN 21 ?_
   try simp only [Act.put,qZ]
   refine tN 22 ?_
   try simp only [Act.put,qZ]
   refine tN 23 ?_
   try simp only [Act.put,qZ]
   refine tN 24 ?_
   try simp only [Act.put,qZ]
   refine tN 25 ?_
   try simp only [Act.put,qZ]
   refine tN 26 ?_
   try simp only [Act.put,qZ]
   refine tR 27 fun K hK=>?_
   try simp only [qZ]
   go_simp
   refine hK.out _ _ ?_ fun _=>?_
   ·exact kS
   clear hK K
   try simp only [Act.put,qZ]
   refine wpAnyH_done (by kernel_rfl) ?_ _
   go_wp2
   go_ret
   exact ⟨rfl,bX⟩
end
section
variable {w:World} {A M:Option Addr} (ca cm:Nat)
theorem xright_unsized (f p z an:Int) (aw:List Nat) (mn:Int) (mw:List Nat) (s:Bool) (h:¬ Sized p z):Calls Tryz.prog 167 #[.agg #[.int .i64 f,.int .i64 p,.int .i64 z,.int .i64 an,.slice A aw.length ca,.int .i64 mn,.slice M mw.length cm,.bool s]] w fun e w'=>e=.returned (.bool false)∧Below w.heap.size w w':=by
 by_cases h0:z=0
 ·subst h0
  by_cases h2:2 ≤ p
  ·have d2:decide (2 ≤ p)=true:=decide_eq_true h2
   have d4:decide (p ≤ 4)=false:=decide_eq_false (fun h4=>h (.inr ⟨rfl,h2,h4⟩))
   clear h
   go_enter Tryz.func167,Tryz.ntmps167
   go_wp2
   go_ret
   exact ⟨rfl,bX⟩
  ·have d2:decide (2 ≤ p)=false:=decide_eq_false h2
   clear h
   go_enter Tryz.func167,Tryz.ntmps167
   go_wp2
   go_ret
   exact ⟨rfl,bX⟩
 ·have e0:(z == 0)=false:=by simpa using h0
  by_cases hz:z=2 ∨ z=4 ∨ z=8 ∨ z=16
  ·have hp:(p == 1)=false:=by simp;intro e;exact h (.inl ⟨hz,e⟩)
   clear h e0 h0
   rcases hz with rfl | rfl | rfl | rfl
   all_goals
    go_enter Tryz.func167,Tryz.ntmps167
    go_wp2
    go_ret
    exact ⟨rfl,bX⟩
  ·have e2:(z == 2)=false:=by simp;omega
   have e4:(z == 4)=false:=by simp;omega
   have e8:(z == 8)=false:=by simp;omega
   have e16:(z == 16)=false:=by simp;omega
   clear hz h h0
   go_enter Tryz.func167,Tryz.ntmps167
   go_wp2
   go_ret
   exact ⟨rfl,bX⟩
theorem xright_unplaced (f p z an:Int) (aw:List Nat) (mn:Int) (mw:List Nat) (s:Bool) (h:Sized p z) (hp:¬ Placed f p):Calls Tryz.prog 167 #[.agg #[.int .i64 f,.int .i64 p,.int .i64 z,.int .i64 an,.slice A aw.length ca,.int .i64 mn,.slice M mw.length cm,.bool s]] w fun e w'=>e=.returned (.bool false)∧Below w.heap.size w w':=by
 unfold Placed at hp
 by_cases hf:f < 0
 ·have d1:decide (f < 0)=true:=decide_eq_true hf
  clear hp
  rcases h with ⟨rfl | rfl | rfl | rfl,rfl⟩ | ⟨rfl,h1,h2⟩
  rotate_right
  ·have d3:decide (2 ≤ p)=true:=decide_eq_true h1
   have d4:decide (p ≤ 4)=true:=decide_eq_true h2
   go_enter Tryz.func167,Tryz.ntmps167
   go_wp2
   go_ret
   exact ⟨rfl,bX⟩
  all_goals
   go_enter Tryz.func167,Tryz.ntmps167
   go_wp2
   go_ret
   exact ⟨rfl,bX⟩
 ·have d1:decide (f < 0)=false:=decide_eq_false hf
  rcases h with ⟨rfl | rfl | rfl | rfl,rfl⟩ | ⟨rfl,h1,h2⟩
  rotate_right
  ·have d3:decide (2 ≤ p)=true:=decide_eq_true h1
   have d4:decide (p ≤ 4)=true:=decide_eq_true h2
   have d5:decide (1024 - p < f)=true:=decide_eq_true (by omega)
   have d6:IntKind.i64.wrap (1024 - p)=1024 - p:=by rw [IntWalk.i64_in _ (by omega)]
   clear hp
   go_enter Tryz.func167,Tryz.ntmps167
   go_wp2
   go_ret
   exact ⟨rfl,bX⟩
  all_goals
   have d5:decide ((1023:Int) < f)=true:=decide_eq_true (by omega)
   clear hp
   go_enter Tryz.func167,Tryz.ntmps167
   go_wp2
   go_ret
   exact ⟨rfl,bX⟩
theorem xright_any (d:Sd) (hA:Row w w.heap.size A d.aw) (hM:Row w w.heap.size M d.mw) (b:Bool) (hb:b=true ↔ Ok1 d) :
  Calls Tryz.prog 167 #[spv d A ca M cm] w fun e w'=>e=.returned (.bool b)∧Below w.heap.size w w':=by
 rw [ok1_iff] at hb
 obtain ⟨f,p,z,an,aw,mn,mw,s⟩:=d
 unfold spv
 simp only at *
 by_cases h1:Sized p z
 ·by_cases h2:Placed f p
  ·have hb':b=true ↔ Rec ⟨f,p,z,an,aw,mn,mw,s⟩:=⟨fun h=>(hb.1 h).2.2,fun h=>hb.2 ⟨h1,h2,h⟩⟩
   rcases h1 with ⟨rfl | rfl | rfl | rfl,rfl⟩ | ⟨rfl,g1,g2⟩
   ·exact xright_zN ca cm 2 8 (.inl ⟨rfl,rfl⟩) f an aw mn mw s h2 hA hM b hb'
   ·exact xright_zN ca cm 4 4 (.inr (.inl ⟨rfl,rfl⟩)) f an aw mn mw s h2 hA hM b hb'
   ·exact xright_zN ca cm 8 2 (.inr (.inr (.inl ⟨rfl,rfl⟩))) f an aw mn mw s h2 hA hM b hb'
   ·exact xright_zN ca cm 16 1 (.inr (.inr (.inr ⟨rfl,rfl⟩))) f an aw mn mw s h2 hA hM b hb'
   ·exact xright_z0 ca cm f p an aw mn mw s g1 g2 h2 hA hM b hb'
  ·obtain rfl:b=false:=by
    cases b
    ·rfl
    ·exact absurd (hb.1 rfl).2.1 h2
   exact xright_unplaced ca cm f p z an aw mn mw s h1 h2
 ·obtain rfl:b=false:=by
   cases b
   ·rfl
   ·exact absurd (hb.1 rfl).1 h1
  exact xright_unsized ca cm f p z an aw mn mw s h1
end
section
variable {w:World} {A:Option Addr} {l:List Sd} (cap:Nat)
set_option maxHeartbeats 8000000 in
theorem xcheckL_any (hr:SRow w w.heap.size A l) (hl:l.length ≤ 17592186044416) (y:Int) (hy:(OkL l∧y=0) ∨ (¬ OkL l∧y=2)) :
  Calls Tryz.prog 160 #[.slice A l.length cap] w fun e w'=>e=.returned (.int .i64 y)∧Below w.heap.size w w':=by
 by_cases hlen:256 < l.length
 ·obtain rfl:y=2:=by
   rcases hy with ⟨h,_⟩ | ⟨_,h⟩
   ·exact absurd h.1 (by omega)
   ·exact h
  have d1:decide (256 < (l.length:Int))=true:=decide_eq_true (by omega)
  clear hy
  go_enter Tryz.func160,Tryz.ntmps160
  go_wp2
  go_ret
  exact ⟨rfl,bX⟩
 ·have d1:decide (256 < (l.length:Int))=false:=decide_eq_false (by omega)
  have hY:=Lib.hid hy
  clear hy
  go_enter Tryz.func160,Tryz.ntmps160
  go_wp2_with fail
  go_loopw [10] (fun ii wr=>∃ k:Nat,ii=.int .i64 (k:Nat)∧k ≤ l.length∧Hid (OkP l k)∧w.heap.size ≤ wr.heap.size∧Below w.heap.size w wr) (fun ii _=>l.length - (intOf ii).toNat)
  case atStart=>exact ⟨0,rfl,Nat.zero_le _,Lib.hid ⟨fun i hi=>by omega,fun i hi=>by omega⟩,lX,bX⟩
  case round=>
   obtain ⟨k,rfl,hk,hA,hsz,hb_wr⟩:=hrel
   have hsr:=hb_wr.size
   by_cases hlt:k < l.length
   ·have hrr:=hr.later hb_wr
    obtain ⟨b,off,hAe,hbb,hc⟩:=hrr.at_ (by omega)
    obtain ⟨Aa,ca,Am,cm,c8,ra,rm⟩:=hc k hlt
    obtain ⟨d,hd⟩:∃ d,Hid (nth l k=d):=⟨_,rfl⟩
    rw [hd.out] at c8 ra rm
    have i1:(k:Int) < (l.length:Int):=by omega
    have i2:(0:Int) ≤ (k:Int):=by omega
    by_cases h1:Ok1 d
    ·have HRT:=Lib.hid fun (w:World) ha hm=>xright_any (w:=w) (A:=Aa) (M:=Am) ca cm d ha hm true ⟨fun _=>h1,fun _=>rfl⟩
     have hpl:=h1.placed
     unfold Placed at hpl
     have H1:=Lib.hid h1
     clear h1
     cases k with
     | zero=>
      have HN:Hid (OkP l 1):=Lib.hid (hA.out.next (by rw [hd.out];exact H1.out) (by rw [hd.out];exact hpl.1))
      obtain ⟨x0,x1,x2,x3,x4,x5,x6,x7⟩:=c8
      clear hc
      subst hAe
      simp only [Nat.zero_mul,Nat.add_zero] at x0 x1 x2 x3 x4 x5 x6 x7
      obtain ⟨f,p,z,an,aw,mn,mw,s⟩:=d
      unfold spv at HRT
      simp only at *
      go_wp2_with fail
      refine wp_region_held_drew (S:=(fun X:World=>X.cell? ⟨wr.heap.size,0,none⟩=some (.int .i64 f)∧X.cell? ⟨wr.heap.size,1,none⟩=some (.int .i64 p)∧X.cell? ⟨wr.heap.size,2,none⟩=some (.int .i64 z)∧X.cell? ⟨wr.heap.size,3,none⟩=some (.int .i64 an)∧X.cell? ⟨wr.heap.size,4,none⟩=some (.slice Aa aw.length ca)∧X.cell? ⟨wr.heap.size,5,none⟩=some (.int .i64 mn)∧X.cell? ⟨wr.heap.size,6,none⟩=some (.slice Am mw.length cm)∧X.cell? ⟨wr.heap.size,7,none⟩=some (.bool s))) (by kernel_rfl) ?_ fun _=>?_
      ·exact kS
      refine tY 0 ?_
      try simp only [Act.put,qZ]
      refine tR 1 fun K hK=>?_
      try simp only [qZ]
      go_simp
      go_at_call 167
      refine (HRT.out _ (ra.later bX) (rm.later bX)).mono ?_
      rintro e w5 ⟨rfl,hb_w5⟩
      have hs_w5:=hb_w5.size
      (try simp only [zZ] at hs_w5)
      have mw50:w5.cell? ⟨wr.heap.size,0,none⟩=some (.int .i64 f):=cX hb_w5
      have mw51:w5.cell? ⟨wr.heap.size,1,none⟩=some (.int .i64 p):=cX hb_w5
      have mw52:w5.cell? ⟨wr.heap.size,2,none⟩=some (.int .i64 z):=cX hb_w5
      have mw53:w5.cell? ⟨wr.heap.size,3,none⟩=some (.int .i64 an):=cX hb_w5
      have mw54:w5.cell? ⟨wr.heap.size,4,none⟩=some (.slice Aa aw.length ca):=cX hb_w5
      have mw55:w5.cell? ⟨wr.heap.size,5,none⟩=some (.int .i64 mn):=cX hb_w5
      have mw56:w5.cell? ⟨wr.heap.size,6,none⟩=some (.slice Am mw.length cm):=cX hb_w5
      have mw57:w5.cell? ⟨wr.heap.size,7,none⟩=some (.bool s):=cX hb_w5
      try go_wp2_with fail
      refine hK.out _ _ ?_ fun _=>?_
      ·exact kS
      clear hK K
      try simp only [Act.put,qZ]
      refine tY 2 ?_
      try simp only [Act.put,qZ]
      refine tY 3 ?_
      try simp only [Act.put,qZ]
      refine tY 4 ?_
      try simp only [Act.put,qZ]
      refine tY 5 ?_
      try simp only [Act.put,qZ]
      refine tY 6 ?_
      try simp only [Act.put,qZ]
      refine tN 7 ?_
      try simp only [Act.put,qZ]
      refine tN 8 ?_
      try simp only [Act.put,qZ]
      refine tN 9 ?_
      try simp only [Act.put,qZ]
      refine tN 10 ?_
      try simp only [Act.put,qZ]
      refine tN 11 ?_
      try simp only [Act.put,qZ]
      refine tN 12 ?_
      try simp only [Act.put,qZ]
      refine tN 13 ?_
      try simp only [Act.put,qZ]
      refine tN 14 ?_
      try simp only [Act.put,qZ]
      refine tN 15 ?_
      try simp only [Act.put,qZ]
      refine tN 16 ?_
      try simp only [Act.put,qZ]
      refine tN 17 ?_
      try simp only [Act.put,qZ]
      refine tN 18 ?_
      try simp only [Act.put,qZ]
      refine tN 19 ?_
      try simp only [Act.put,qZ]
      refine tN 20 ?_
      try simp only [Act.put,qZ]
      refine tN 21 ?_
      try simp only [Act.put,qZ]
      refine tN 22 ?_
      try simp only [Act.put,qZ]
      refine tR 23 fun K hK=>?_
      try simp only [qZ]
      go_simp
      refine hK.out _ _ ?_ fun _=>?_
      ·exact kS
      clear hK K
      try simp only [Act.put,qZ]
      refine tR 24 fun K hK=>?_
      try simp only [qZ]
      go_simp
      refine hK.out _ _ ?_ fun _=>?_
      ·exact kS
      clear hK K
      try simp only [Act.put,qZ]
      refine wpAnyH_done (by kernel_rfl) ?_ _
      go_wp2
      go_roundw
      case rel=>exact ⟨1,by go_num,by omega,HN,lX,bX⟩
      case measure=>simp [intOf];omega
     | succ j=>
      obtain ⟨Ab,cb,Bm,dm,e8,_,_⟩:=hc j (by omega)
      have hpj:=(hA.out.1 j (by omega)).placed
      unfold Placed at hpj
      have hsj:=(hA.out.1 j (by omega)).sized.slots
      obtain ⟨pf,hpf⟩:∃ x,Hid ((nth l j).f=x):=⟨_,rfl⟩
      obtain ⟨pp,hpp⟩:∃ x,Hid ((nth l j).p=x):=⟨_,rfl⟩
      have v0:=e8.c0
      have v1:=e8.c1
      rw [hpf.out] at v0 hpj
      rw [hpp.out] at v1 hpj hsj
      have hw2:IntKind.i64.wrap ((j:Int) + 1 - 1)=(j:Int):=by rw [IntWalk.i64_in _ (by omega)];omega
      have hw4:IntKind.i64.wrap (j:Int)=(j:Int):=by rw [IntWalk.i64_in _ (by omega)]
      have hw6:IntKind.i64.wrap (pf + pp)=pf + pp:=by rw [IntWalk.i64_in _ (by omega)]
      have i3:(j:Int) < (l.length:Int):=by omega
      have i4:(0:Int) ≤ (j:Int):=by omega
      by_cases h2:pf + pp ≤ d.f
      ·have HN:Hid (OkP l (j + 1 + 1)):=Lib.hid (hA.out.next (by rw [hd.out];exact H1.out) (by show (nth l j).f + (nth l j).p ≤ _;rw [hd.out,hpf.out,hpp.out];exact h2))
       have g1:decide (d.f < pf + pp)=false:=decide_eq_false (by omega)
       obtain ⟨x0,x1,x2,x3,x4,x5,x6,x7⟩:=c8
       clear hc e8 h2
       subst hAe
       obtain ⟨f,p,z,an,aw,mn,mw,s⟩:=d
       unfold spv at HRT
       simp only at *
       go_wp2_with fail
       refine wp_region_held_drew (S:=(fun X:World=>X.cell? ⟨wr.heap.size,0,none⟩=some (.int .i64 f)∧X.cell? ⟨wr.heap.size,1,none⟩=some (.int .i64 p)∧X.cell? ⟨wr.heap.size,2,none⟩=some (.int .i64 z)∧X.cell? ⟨wr.heap.size,3,none⟩=some (.int .i64 an)∧X.cell? ⟨wr.heap.size,4,none⟩=some (.slice Aa aw.length ca)∧X.cell? ⟨wr.heap.size,5,none⟩=some (.int .i64 mn)∧X.cell? ⟨wr.heap.size,6,none⟩=some (.slice Am mw.length cm)∧X.cell? ⟨wr.heap.size,7,none⟩=some (.bool s)∧X.cell? ⟨b,off + j * 8,none⟩=some (.int .i64 pf)∧X.cell? ⟨b,off + j * 8 + 1,none⟩=some (.int .i64 pp))) (by kernel_rfl) ?_ fun _=>?_
       ·exact kS
       refine tY 0 ?_
       try simp only [Act.put,qZ]
       refine tR 1 fun K hK=>?_
       try simp only [qZ]
       go_simp
       go_at_call 167
       refine (HRT.out _ (ra.later bX) (rm.later bX)).mono ?_
       rintro e w5 ⟨rfl,hb_w5⟩
       have hs_w5:=hb_w5.size
       (try simp only [zZ] at hs_w5)
       have mw50:w5.cell? ⟨wr.heap.size,0,none⟩=some (.int .i64 f):=cX hb_w5
       have mw51:w5.cell? ⟨wr.heap.size,1,none⟩=some (.int .i64 p):=cX hb_w5
       have mw52:w5.cell? ⟨wr.heap.size,2,none⟩=some (.int .i64 z):=cX hb_w5
       have mw53:w5.cell? ⟨wr.heap.size,3,none⟩=some (.int .i64 an):=cX hb_w5
       have mw54:w5.cell? ⟨wr.heap.size,4,none⟩=some (.slice Aa aw.length ca):=cX hb_w5
       have mw55:w5.cell? ⟨wr.heap.size,5,none⟩=some (.int .i64 mn):=cX hb_w5
       have mw56:w5.cell? ⟨wr.heap.size,6,none⟩=some (.slice Am mw.length cm):=cX hb_w5
       have mw57:w5.cell? ⟨wr.heap.size,7,none⟩=some (.bool s):=cX hb_w5
       have mw58:w5.cell? ⟨b,off + j * 8,none⟩=some (.int .i64 pf):=cX hb_w5
       have mw59:w5.cell? ⟨b,off + j * 8 + 1,none⟩=some (.int .i64 pp):=cX hb_w5
       try go_wp2_with fail
       refine hK.out _ _ ?_ fun _=>?_
       ·exact kS
       clear hK K
       try simp only [Act.put,qZ]
       refine tY 2 ?_
       try simp only [Act.put,qZ]
       refine tY 3 ?_
       try simp only [Act.put,qZ]
       refine tY 4 ?_
       try simp only [Act.put,qZ]
       refine tY 5 ?_
       try simp only [Act.put,qZ]
       refine tY 6 ?_
       try simp only [Act.put,qZ]
       refine tY 7 ?_
       try simp only [Act.put,qZ]
       refine tY 8 ?_
       try simp only [Act.put,qZ]
       refine tY 9 ?_
       try simp only [Act.put,qZ]
       refine tY 10 ?_
       try simp only [Act.put,qZ]
       refine tY 11 ?_
       try simp only [Act.put,qZ]
       refine tY 12 ?_
       try simp only [Act.put,qZ]
       refine tY 13 ?_
       try simp only [Act.put,qZ]
       refine tY 14 ?_
       try simp only [Act.put,qZ]
       refine tY 15 ?_
       try simp only [Act.put,qZ]
       refine tY 16 ?_
       try simp only [Act.put,qZ]
       refine tY 17 ?_
       try simp only [Act.put,qZ]
       refine tY 18 ?_
       try simp only [Act.put,qZ]
       refine tY 19 ?_
       try simp only [Act.put,qZ]
       refine tY 20 ?_
       try simp only [Act.put,qZ]
       refine tY 21 ?_
       try simp only [Act.put,qZ]
       refine tY 22 ?_
       try simp only [Act.put,qZ]
       refine tR 23 fun K hK=>?_
       try simp only [qZ]
       go_simp
       refine hK.out _ _ ?_ fun _=>?_
       ·exact kS
       clear hK K
       try simp only [Act.put,qZ]
       refine tR 24 fun K hK=>?_
       try simp only [qZ]
       go_simp
       refine hK.out _ _ ?_ fun _=>?_
       ·exact kS
       clear hK K
       try simp only [Act.put,qZ]
       refine wpAnyH_done (by kernel_rfl) ?_ _
       go_wp2
       go_roundw
       case rel=>exact ⟨j + 1 + 1,by go_num,by omega,HN,lX,bX⟩
       case measure=>simp [intOf];omega
      ·have g1:decide (d.f < pf + pp)=true:=decide_eq_true (by omega)
       obtain rfl:y=2:=by
        rcases hY.out with ⟨h,_⟩ | ⟨_,h⟩
        ·have:=(h.2.at_ hlt).2
         rw [hd.out] at this
         have e:endAt l (j + 1)=pf + pp:=by show (nth l j).f + (nth l j).p=_;rw [hpf.out,hpp.out]
         rw [e] at this
         exact absurd this h2
        ·exact h
       obtain ⟨x0,x1,x2,x3,x4,x5,x6,x7⟩:=c8
       clear hc e8 h2
       subst hAe
       obtain ⟨f,p,z,an,aw,mn,mw,s⟩:=d
       unfold spv at HRT
       simp only at *
       go_wp2_with fail
       refine wp_region_held_drew (S:=(fun X:World=>X.cell? ⟨wr.heap.size,0,none⟩=some (.int .i64 f)∧X.cell? ⟨wr.heap.size,1,none⟩=some (.int .i64 p)∧X.cell? ⟨wr.heap.size,2,none⟩=some (.int .i64 z)∧X.cell? ⟨wr.heap.size,3,none⟩=some (.int .i64 an)∧X.cell? ⟨wr.heap.size,4,none⟩=some (.slice Aa aw.length ca)∧X.cell? ⟨wr.heap.size,5,none⟩=some (.int .i64 mn)∧X.cell? ⟨wr.heap.size,6,none⟩=some (.slice Am mw.length cm)∧X.cell? ⟨wr.heap.size,7,none⟩=some (.bool s)∧X.cell? ⟨b,off + j * 8,none⟩=some (.int .i64 pf)∧X.cell? ⟨b,off + j * 8 + 1,none⟩=some (.int .i64 pp))) (by kernel_rfl) ?_ fun _=>?_
       ·exact kS
       refine tY 0 ?_
       try simp only [Act.put,qZ]
       refine tR 1 fun K hK=>?_
       try simp only [qZ]
       go_simp
       go_at_call 167
       refine (HRT.out _ (ra.later bX) (rm.later bX)).mono ?_
       rintro e w5 ⟨rfl,hb_w5⟩
       have hs_w5:=hb_w5.size
       (try simp only [zZ] at hs_w5)
       have mw50:w5.cell? ⟨wr.heap.size,0,none⟩=some (.int .i64 f):=cX hb_w5
       have mw51:w5.cell? ⟨wr.heap.size,1,none⟩=some (.int .i64 p):=cX hb_w5
       have mw52:w5.cell? ⟨wr.heap.size,2,none⟩=some (.int .i64 z):=cX hb_w5
       have mw53:w5.cell? ⟨wr.heap.size,3,none⟩=some (.int .i64 an):=cX hb_w5
       have mw54:w5.cell? ⟨wr.heap.size,4,none⟩=some (.slice Aa aw.length ca):=cX hb_w5
       have mw55:w5.cell? ⟨wr.heap.size,5,none⟩=some (.int .i64 mn):=cX hb_w5
       have mw56:w5.cell? ⟨wr.heap.size,6,none⟩=some (.slice Am mw.length cm):=cX hb_w5
       have mw57:w5.cell? ⟨wr.heap.size,7,none⟩=some (.bool s):=cX hb_w5
       have mw58:w5.cell? ⟨b,off + j * 8,none⟩=some (.int .i64 pf):=cX hb_w5
       have mw59:w5.cell? ⟨b,off + j * 8 + 1,none⟩=some (.int .i64 pp):=cX hb_w5
       try go_wp2_with fail
       refine hK.out _ _ ?_ fun _=>?_
       ·exact kS
       clear hK K
       try simp only [Act.put,qZ]
       refine tY 2 ?_
       try simp only [Act.put,qZ]
       refine tY 3 ?_
       try simp only [Act.put,qZ]
       refine tY 4 ?_
       try simp only [Act.put,qZ]
       refine tY 5 ?_
       try simp only [Act.put,qZ]
       refine tY 6 ?_
       try simp only [Act.put,qZ]
       refine tY 7 ?_
       try simp only [Act.put,qZ]
       refine tY 8 ?_
       try simp only [Act.put,qZ]
       refine tY 9 ?_
       try simp only [Act.put,qZ]
       refine tY 10 ?_
       try simp only [Act.put,qZ]
       refine tY 11 ?_
       try simp only [Act.put,qZ]
       refine tY 12 ?_
       try simp only [Act.put,qZ]
       refine tY 13 ?_
       try simp only [Act.put,qZ]
       refine tY 14 ?_
       try simp only [Act.put,qZ]
       refine tY 15 ?_
       try simp only [Act.put,qZ]
       refine tY 16 ?_
       try simp only [Act.put,qZ]
       refine tY 17 ?_
       try simp only [Act.put,qZ]
       refine tY 18 ?_
       try simp only [Act.put,qZ]
       refine tY 19 ?_
       try simp only [Act.put,qZ]
       refine tY 20 ?_
       try simp only [Act.put,qZ]
       refine tY 21 ?_
       try simp only [Act.put,qZ]
       refine tY 22 ?_
       try simp only [Act.put,qZ]
       refine tR 23 fun K hK=>?_
       try simp only [qZ]
       go_simp
       refine hK.out _ _ ?_ fun _=>?_
       ·exact kS
       clear hK K
       try simp only [Act.put,qZ]
       refine tR 24 fun K hK=>?_
       try simp only [qZ]
       go_simp
       refine hK.out _ _ ?_ fun _=>?_
       ·exact kS
       clear hK K
       try simp only [Act.put,qZ]
       refine wpAnyH_done (by kernel_rfl) ?_ _
       go_wp2
       go_ret
       exact ⟨rfl,bX⟩
    ·obtain rfl:y=2:=by
      rcases hY.out with ⟨h,_⟩ | ⟨_,h⟩
      ·have:=(h.2.at_ hlt).1
       rw [hd.out] at this
       exact absurd this h1
      ·exact h
     have HRT:=Lib.hid fun (w:World) ha hm=>xright_any (w:=w) (A:=Aa) (M:=Am) ca cm d ha hm false ⟨fun h=>(by cases h),fun h=>absurd h h1⟩
     obtain ⟨x0,x1,x2,x3,x4,x5,x6,x7⟩:=c8
     clear hc h1
     subst hAe
     obtain ⟨f,p,z,an,aw,mn,mw,s⟩:=d
     unfold spv at HRT
     simp only at *
     go_wp2_with fail
     refine wp_region_held_drew (S:=(fun X:World=>X.cell? ⟨wr.heap.size,0,none⟩=some (.int .i64 f)∧X.cell? ⟨wr.heap.size,1,none⟩=some (.int .i64 p)∧X.cell? ⟨wr.heap.size,2,none⟩=some (.int .i64 z)∧X.cell? ⟨wr.heap.size,3,none⟩=some (.int .i64 an)∧X.cell? ⟨wr.heap.size,4,none⟩=some (.slice Aa aw.length ca)∧X.cell? ⟨wr.heap.size,5,none⟩=some (.int .i64 mn)∧X.cell? ⟨wr.heap.size,6,none⟩=some (.slice Am mw.length cm)∧X.cell? ⟨wr.heap.size,7,none⟩=some (.bool s))) (by kernel_rfl) ?_ fun _=>?_
     ·exact kS
     refine tY 0 ?_
     try simp only [Act.put,qZ]
     refine tR 1 fun K hK=>?_
     try simp only [qZ]
     go_simp
     go_at_call 167
     refine (HRT.out _ (ra.later bX) (rm.later bX)).mono ?_
     rintro e w5 ⟨rfl,hb_w5⟩
     have hs_w5:=hb_w5.size
     (try simp only [zZ] at hs_w5)
     have mw50:w5.cell? ⟨wr.heap.size,0,none⟩=some (.int .i64 f):=cX hb_w5
     have mw51:w5.cell? ⟨wr.heap.size,1,none⟩=some (.int .i64 p):=cX hb_w5
     have mw52:w5.cell? ⟨wr.heap.size,2,none⟩=some (.int .i64 z):=cX hb_w5
     have mw53:w5.cell? ⟨wr.heap.size,3,none⟩=some (.int .i64 an):=cX hb_w5
     have mw54:w5.cell? ⟨wr.heap.size,4,none⟩=some (.slice Aa aw.length ca):=cX hb_w5
     have mw55:w5.cell? ⟨wr.heap.size,5,none⟩=some (.int .i64 mn):=cX hb_w5
     have mw56:w5.cell? ⟨wr.heap.size,6,none⟩=some (.slice Am mw.length cm):=cX hb_w5
     have mw57:w5.cell? ⟨wr.heap.size,7,none⟩=some (.bool s):=cX hb_w5
     try go_wp2_with fail
     refine hK.out _ _ ?_ fun _=>?_
     ·exact kS
     clear hK K
     try simp only [Act.put,qZ]
     refine tY 2 ?_
     try simp only [Act.put,qZ]
     refine tY 3 ?_
     try simp only [Act.put,qZ]
     refine tN 4 ?_
     try simp only [Act.put,qZ]
     refine tN 5 ?_
     try simp only [Act.put,qZ]
     refine tN 6 ?_
     try simp only [Act.put,qZ]
     refine tN 7 ?_
     try simp only [Act.put,qZ]
     refine tN 8 ?_
     try simp only [Act.put,qZ]
     refine tN 9 ?_
     try simp only [Act.put,qZ]
     refine tN 10 ?_
     try simp only [Act.put,qZ]
     refine tN 11 ?_
     try simp only [Act.put,qZ]
     refine tN 12 ?_
     try simp only [Act.put,qZ]
     refine tN 13 ?_
     try simp only [Act.put,qZ]
     refine tN 14 ?_
     try simp only [Act.put,qZ]
     refine tN 15 ?_
     try simp only [Act.put,qZ]
     refine tN 16 ?_
     try simp only [Act.put,qZ]
     refine tN 17 ?_
     try simp only [Act.put,qZ]
     refine tN 18 ?_
     try simp only [Act.put,qZ]
     refine tN 19 ?_
     try simp only [Act.put,qZ]
     refine tN 20 ?_
     try simp only [Act.put,qZ]
     refine tN 21 ?_
     try simp only [Act.put,qZ]
     refine tN 22 ?_
     try simp only [Act.put,qZ]
     refine tN 23 ?_
     try simp only [Act.put,qZ]
     refine tR 24 fun K hK=>?_
     try simp only [qZ]
     go_simp
     refine hK.out _ _ ?_ fun _=>?_
     ·exact kS
     clear hK K
     try simp only [Act.put,qZ]
     refine wpAnyH_done (by kernel_rfl) ?_ _
     go_wp2
     go_ret
     exact ⟨rfl,bX⟩
   ·obtain rfl:k=l.length:=by omega
    obtain rfl:y=0:=by
     rcases hY.out with ⟨_,h⟩ | ⟨h,_⟩
     ·exact h
     ·exact absurd ⟨by omega,hA.out⟩ h
    go_wp2
    go_ret
    exact ⟨rfl,bX⟩
end
section
variable {w:World} {d:Sd} {A M:Option Addr} (ca cm:Nat)
end
theorem ok1_newSd {f p z:Int} (h1:Sized p z) (h2:Placed f p):Ok1 (newSd f p z):=by
 have hs:=h1.slots
 have hr:=right_wordsN (slotsOf z) (by omega) (by omega)
 exact ⟨h1,h2,hr,rfl,hr,rfl,fun i _ h=>h⟩
section
variable {w:World} (f p z:Int)
end
theorem WB.setU {w:World} {B b:Nat} {v:Hv} {h:Hp} (m:WB w B b v h) {U:Option Addr} {cu:Nat} {us:List Nat} (o:Own w B U us) (hU:Apt b U us) :
  WB ((w.setCell ⟨b,1,none⟩ (.int .i64 h.n)).setCell ⟨b,2,none⟩ (.slice U us.length cu)) B b ⟨v.A,v.ca,U,cu,v.V,v.cv⟩ ⟨h.ws,h.n,us,h.l⟩:=by
 obtain ⟨vs,e,h1,h2⟩:=m.s
 exact ⟨(m.box.set1 _).set2 _,m.le,(m.a.oth (p:=⟨b,1,none⟩) m.na _).oth (p:=⟨b,2,none⟩) m.na _,(o.oth (p:=⟨b,1,none⟩) hU _).oth (p:=⟨b,2,none⟩) hU _,⟨vs,e,(h1.oth (p:=⟨b,1,none⟩) h2 _).oth (p:=⟨b,2,none⟩) h2 _,h2⟩,m.na,hU⟩
theorem WB.setV {w:World} {B b:Nat} {v:Hv} {h:Hp} (m:WB w B b v h) {V:Option Addr} {cv:Nat} {l:List Sd} {vs:List Sv} (e:sdsOf vs=l) (hs:OwnsS w B V l.length cv vs) (ha:AptS b V vs) :
  WB (w.setCell ⟨b,3,none⟩ (.slice V l.length cv)) B b ⟨v.A,v.ca,v.U,v.cu,V,cv⟩ ⟨h.ws,h.n,h.us,l⟩:=
 ⟨m.box.set3 _,m.le,m.a.oth (p:=⟨b,3,none⟩) m.na _,m.u.oth (p:=⟨b,3,none⟩) m.nu _,⟨vs,e,hs.oth (p:=⟨b,3,none⟩) ha _,ha⟩,m.na,m.nu⟩
theorem OwnsS.aptS_ge {w:World} {B n cap b:Nat} {A:Option Addr} {vs:List Sv} (h:OwnsS w B A n cap vs) (hb:b < B):AptS b A vs:=
 ⟨fun e=>by
  obtain ⟨_,⟨e1,_⟩ | ⟨q,_,_,e1,e2,_⟩⟩:=id h.row_
  ·injection e1 with e1;subst e1;cases e
  ·injection e1 with e1
   subst e1
   injection e with e
   injection e with e
   omega,fun x hx=>⟨(h.words x hx).1.apt hb,(h.words x hx).2.apt hb⟩⟩
theorem WB.caps {w:World} {B b:Nat} {v:Hv} {h:Hp} (m:WB w B b v h):h.l.length ≤ v.cv∧(v.V=none → v.cv=0):=by
 obtain ⟨vs,e,h1,h2⟩:=m.s
 exact owns_cap h1.row_
def groH (h:Hp) (i c z:Int) (p:Nat):Hp:=⟨h.ws,h.n,fillW h.us i.toNat c.toNat true,insS h.l (newSd i c z) p⟩
theorem OkH.fit {h:Hp} (hk:OkH h) {c i:Int} (hc:1 ≤ c) (hr:RunP h.us c h.n i 0):1 ≤ i∧i + c ≤ h.n∧FitAt h.us i.toNat c.toNat:=by
 rcases hr.fit hc with ⟨_,h1,h2,h3,_⟩ | ⟨h1,_⟩
 ·refine ⟨?_,h2,h3⟩
  have hn:=hk.framed.some_
  have h0:=(hk.owned.used 0 (by omega)).2 (.inl rfl)
  by_cases h5:1 ≤ i
  ·exact h5
  ·have:=h3 0 (by omega) (by omega)
   rw [h0] at this
   cases this
 ·cases h1
theorem OkH.n1024 {h:Hp} (hk:OkH h):h.n ≤ 1024:=by
 have:=hk.framed.words
 have:=hk.framed.long
 omega
theorem grow_noclash {h:Hp} (hk:OkH h) {c i z:Int} (hc:1 ≤ c) (hr:RunP h.us c h.n i 0) {p:Nat} (hp:PosE h.l (newSd i c z) p):¬ Clash h.l (newSd i c z) p:=by
 rintro ⟨h1,h2⟩
 obtain ⟨f1,f2,f3⟩:=hk.fit hc hr
 have h2:(nth h.l p).f < i + c:=h2
 have hin:=hk.owned.in_ p h1
 have hh:i < (nth h.l p).f + (nth h.l p).p:=by
  rcases hp with ⟨_,hq⟩ | hq
  ·omega
  ·rcases hq with ⟨hq,_⟩ | ⟨q,hq,_,hq2,_⟩
   ·omega
   ·have:q=p:=by omega
    subst this
    unfold hitsS at hq2
    have:=of_decide_eq_true hq2
    exact this
 have hsl:=(hk.framed.spans.at_ h1).sized.slots
 obtain ⟨q,hq⟩:∃ q:Nat,(q:Int)=max i (nth h.l p).f:=⟨(max i (nth h.l p).f).toNat,by omega⟩
 have hu:=(hk.owned.used q (by omega)).2 (.inr ⟨p,h1,by omega,by omega⟩)
 have:=f3 q (by omega) (by omega)
 rw [hu] at this
 cases this
def GroE (h:Hp) (c z:Int) (r y:Int) (h':Hp):Prop:=(RunP h.us c h.n 0 3∧r=0∧y=6∧h'=h) ∨ (∃ i,RunP h.us c h.n i 0∧h.l.length=256∧r=0∧y=6∧h'=h) ∨
 (∃ (i:Int) (p:Nat),RunP h.us c h.n i 0∧h.l.length < 256∧PosE h.l (newSd i c z) p∧r=p∧y=0∧h'=groH h i c z p)
theorem GroE.ex {h:Hp} (hk:OkH h) {c z:Int} (hc:1 ≤ c):∃ r y h',GroE h c z r y h':=by
 obtain ⟨m,hm⟩:∃ m:Nat,h.n=m:=⟨h.n.toNat,by have:=hk.framed.some_;omega⟩
 obtain ⟨i,why,hr⟩:=run_ex h.us c hc m
 rw [← hm] at hr
 have hw:why=0 ∨ (why=3∧i=0):=by
  rcases hr with ⟨h1,_⟩ | ⟨h1,h2,_⟩
  ·exact .inl h1
  ·exact .inr ⟨h1,h2⟩
 rcases hw with rfl | ⟨rfl,rfl⟩
 ·by_cases h2:h.l.length < 256
  ·obtain ⟨p,hp⟩:=PosE.ex h.l (newSd i c z)
   exact ⟨_,_,_,.inr (.inr ⟨i,p,hr,h2,hp,rfl,rfl,rfl⟩)⟩
  ·exact ⟨_,_,_,.inr (.inl ⟨i,hr,by have:=hk.framed.spans.1;omega,rfl,rfl,rfl⟩)⟩
 ·exact ⟨_,_,_,.inl ⟨hr,rfl,rfl,rfl⟩⟩
set_option maxHeartbeats 4000000 in
theorem zgrow_any {w:World} {B b:Nat} {v:Hv} {h:Hp} (m:WB w B b v h) (hk:OkH h) (c z:Int) (hcz:Sized c z) (r y:Int) (h':Hp) (hE:GroE h c z r y h') :
  Calls Tryz.prog 158 #[.pointer (some ⟨b,0,none⟩),.int .i64 c,.int .i64 z] w fun e w'=>e=.returned (.tuple #[.int .i64 r,.int .i64 y])∧(∃ v',WB w' B b v' h')∧Below B w w':=by
 have hle:=m.le
 have hbl:=m.lt
 have hcs:=hcz.slots
 have hl256:=hk.framed.spans.1
 have HM:=Lib.hid m
 have hrow:=m.u.row
 obtain ⟨b0,b1,b2,b3,f0,f1,f2,f3⟩:=id m.box
 rcases hE with ⟨hr,rfl,rfl,he⟩ | ⟨i,hr,h256,rfl,rfl,he⟩ | ⟨i,p,hr,h256,hp,rfl,rfl,he⟩
 ·subst h'
  have HT:=Lib.hid fun (w:World) (hrr:Row w w.heap.size v.U h.us)=>take_full (w:=w) (n:=h.n) (A:=v.U) (ws:=h.us) v.cu c hrr hk.framed.pages (by omega) (by omega) hr
  unfold FreshT at HT
  clear m hk hr hcz hcs
  go_enter Tryz.func158,Tryz.ntmps158
  go_wp2_with fail
  go_at_call 89
  refine (HT.out _ hrow).mono ?_
  rintro e w1 ⟨U1,c1,rfl,o1,hb_w1⟩
  have hm1:=HM.out.later hb_w1
  have hs1:=hb_w1.size
  go_wp2
  go_ret2
  have ha:Below w1.heap.size w1 (w1.alloc (.cells #[.int .i64 h.n,.slice U1 h.us.length c1] 28)):=Below.alloc (Below.refl _ _) (Nat.le_refl _) _
  exact ⟨rfl,⟨v,hm1.later ha⟩,(hb_w1.mono (by omega)).trans (ha.mono (by omega))⟩
 ·subst h'
  obtain ⟨f1,f2,f3⟩:=hk.fit (by omega) hr
  have hn1024:=hk.n1024
  have hpl:Placed i c:=⟨by omega,by omega⟩
  have HT:=Lib.hid fun (w:World) (hrr:Row w w.heap.size v.U h.us)=>take_fit (w:=w) (n:=h.n) (A:=v.U) (ws:=h.us) v.cu c i hrr hk.framed.pages (by omega) (by omega) hr
  unfold FreshT at HT
  have HK:=Lib.hid fun (w:World)=>sMake_ok (w:=w) i c z hcz hpl
  unfold FreshS spv newSd at HK
  simp only at HK
  have hcap:=m.caps
  have hAE:AddE h.l (newSd i c z) h.l 6:=by
    obtain ⟨q,hq⟩:=PosE.ex h.l (newSd i c z)
    exact .inr (.inr ⟨q,hk.framed.spans,ok1_newSd hcz hpl,hq,.inr (.inl ⟨grow_noclash hk (by omega) hr hq,h256,rfl,rfl⟩)⟩)
  have HAD:=Lib.hid fun (w:World) (A M:Option Addr) (ca cm:Nat) (hv:SRow w w.heap.size v.V h.l) (hA:Row w w.heap.size A (newSd i c z).aw) (hM:Row w w.heap.size M (newSd i c z).mw)=>sadd_any (w:=w) (A:=v.V) (As:=A) (Ms:=M) (l:=h.l) v.cv ca cm hv hcap.1 (by omega) hcap.2 (newSd i c z) hA hM h.l 6 hAE
  unfold FreshL5 spv at HAD
  unfold newSd at HAD
  simp only at HAD
  clear m hk hr hcz hcs f1 f2 f3 hn1024 hpl hcap hAE h256
  go_enter Tryz.func158,Tryz.ntmps158
  go_wp2_with fail
  go_at_call 89
  refine (HT.out _ hrow).mono ?_
  rintro e w1 ⟨U1,c1,rfl,o1,hb_w1⟩
  have hs1:=hb_w1.size
  have ha1:Below w1.heap.size w1 (w1.alloc (.cells #[.int .i64 h.n,.slice U1 (fillW h.us i.toNat c.toNat true).length c1] 28)):=Below.alloc (Below.refl _ _) (Nat.le_refl _) _
  have hm1:=(HM.out.later hb_w1).later ha1
  have hP1:=Two.new w1 (.int .i64 h.n) (.slice U1 (fillW h.us i.toNat c.toNat true).length c1) 28
  have o1a:=o1.later ha1
  have hb1:Below B w (w1.alloc (.cells #[.int .i64 h.n,.slice U1 (fillW h.us i.toNat c.toNat true).length c1] 28)):=(hb_w1.mono (by omega)).trans (ha1.mono (by omega))
  have hsz1:(w1.alloc (.cells #[.int .i64 h.n,.slice U1 (fillW h.us i.toNat c.toNat true).length c1] 28)).heap.size=w1.heap.size + 1:=World.size_alloc _ _
  go_wp2_with fail
  go_at_call 226
  refine (HK.out _).mono ?_
  rintro e w2 ⟨A2,ca2,M2,cm2,rfl,oA2,oM2,hb_w2⟩
  have hs2:=hb_w2.size
  rw [hsz1] at hs2
  have ha2:Below w2.heap.size w2 (w2.alloc (.cells #[.int .i64 i,.int .i64 c,.int .i64 z,.int .i64 (slotsOf z),.slice A2 (wordsN (slotsOf z)).length ca2,.int .i64 (slotsOf z),.slice M2 (wordsN (slotsOf z)).length cm2,.bool true] 72)):=Below.alloc (Below.refl _ _) (Nat.le_refl _) _
  have hm2:=(hm1.later hb_w2).later ha2
  have hP2:=(hP1.below hb_w2 (by omega)).below ha2 (by omega)
  have o2a:=(o1a.later hb_w2).later ha2
  have hb2:Below B w (w2.alloc (.cells #[.int .i64 i,.int .i64 c,.int .i64 z,.int .i64 (slotsOf z),.slice A2 (wordsN (slotsOf z)).length ca2,.int .i64 (slotsOf z),.slice M2 (wordsN (slotsOf z)).length cm2,.bool true] 72)):=(hb1.trans (hb_w2.mono (by omega))).trans (ha2.mono (by omega))
  have hsz2:(w2.alloc (.cells #[.int .i64 i,.int .i64 c,.int .i64 z,.int .i64 (slotsOf z),.slice A2 (wordsN (slotsOf z)).length ca2,.int .i64 (slotsOf z),.slice M2 (wordsN (slotsOf z)).length cm2,.bool true] 72)).heap.size=w2.heap.size + 1:=World.size_alloc _ _
  have rA2:=(oA2.later ha2).row
  have rM2:=(oM2.later ha2).row
  have hV2:=hm2.hm.v
  clear b0 b1 b2 b3 f0 f1 f2 f3 hb_w1 hb_w2 o1 o1a ha1 ha2 hm1 hP1 oA2 oM2
  obtain ⟨b0,b1,b2,b3,f0,f1,f2,f3⟩:=id hm2.box
  go_wp2_with fail
  go_region_with (go_at_call 227;refine (HAD.out _ A2 M2 ca2 cm2 (hV2.later bX) (rA2.later bX) (rM2.later bX)).mono ?_;rintro e w3 ⟨L3,cl3,vs3,rfl,hvs3,oS3,hb_w3⟩)
  all_goals
   have hb_d:Below (w2.alloc (.cells #[.int .i64 i,.int .i64 c,.int .i64 z,.int .i64 (slotsOf z),.slice A2 (wordsN (slotsOf z)).length ca2,.int .i64 (slotsOf z),.slice M2 (wordsN (slotsOf z)).length cm2,.bool true] 72)).heap.size (w2.alloc (.cells #[.int .i64 i,.int .i64 c,.int .i64 z,.int .i64 (slotsOf z),.slice A2 (wordsN (slotsOf z)).length ca2,.int .i64 (slotsOf z),.slice M2 (wordsN (slotsOf z)).length cm2,.bool true] 72)) w3:=bX
   have hm3:=hm2.later hb_d
   have hP3:=hP2.below hb_d (by omega)
   have o3a:=o2a.later hb_d
   have hs3:=hb_d.size
   rw [hsz2] at hs3
   have hb3:Below B w w3:=hb2.trans (hb_d.mono (by omega))
   go_wp2
   go_ret2
   exact ⟨rfl,⟨v,hm3⟩,hb3⟩
 ·subst h'
  have hfd:=insS_find hk.framed.spans hp
  obtain ⟨L,hL⟩:∃ L,Hid (insS h.l (newSd i c z) p=L):=⟨_,Lib.hid rfl⟩
  have HSA:=Lib.hid fun (w:World) (V A U:Option Addr) (na ca nu cu cv:Nat) (hv:SRow w w.heap.size V L)=>zspanat_any (w:=w) (n:=h.n) (A:=A) (U:=U) (V:=V) (l:=L) na ca nu cu cv hv (by rw [← hL.out,insS_len _ _ _ hp.le];omega) i (p:Int) (by rw [← hL.out];exact hfd)
  unfold hpv at HSA
  obtain ⟨f1,f2,f3⟩:=hk.fit (by omega) hr
  have hn1024:=hk.n1024
  have hpl:Placed i c:=⟨by omega,by omega⟩
  have HT:=Lib.hid fun (w:World) (hrr:Row w w.heap.size v.U h.us)=>take_fit (w:=w) (n:=h.n) (A:=v.U) (ws:=h.us) v.cu c i hrr hk.framed.pages (by omega) (by omega) hr
  unfold FreshT at HT
  have HK:=Lib.hid fun (w:World)=>sMake_ok (w:=w) i c z hcz hpl
  unfold FreshS spv newSd at HK
  simp only at HK
  have hcap:=m.caps
  have hAE:AddE h.l (newSd i c z) L 0:=by
   rw [← hL.out]
   exact .inr (.inr ⟨p,hk.framed.spans,ok1_newSd hcz hpl,hp,.inr (.inr ⟨grow_noclash hk (by omega) hr hp,h256,rfl,rfl⟩)⟩)
  have HAD:=Lib.hid fun (w:World) (A M:Option Addr) (ca cm:Nat) (hv:SRow w w.heap.size v.V h.l) (hA:Row w w.heap.size A (newSd i c z).aw) (hM:Row w w.heap.size M (newSd i c z).mw)=>sadd_any (w:=w) (A:=v.V) (As:=A) (Ms:=M) (l:=h.l) v.cv ca cm hv hcap.1 (by omega) hcap.2 (newSd i c z) hA hM L 0 hAE
  unfold FreshL5 spv at HAD
  unfold newSd at HAD
  simp only at HAD
  clear m hk hr hcz hcs f1 f2 f3 hn1024 hpl hcap hAE h256 hp hfd
  go_enter Tryz.func158,Tryz.ntmps158
  go_wp2_with fail
  go_at_call 89
  refine (HT.out _ hrow).mono ?_
  rintro e w1 ⟨U1,c1,rfl,o1,hb_w1⟩
  have hs1:=hb_w1.size
  have ha1:Below w1.heap.size w1 (w1.alloc (.cells #[.int .i64 h.n,.slice U1 (fillW h.us i.toNat c.toNat true).length c1] 28)):=Below.alloc (Below.refl _ _) (Nat.le_refl _) _
  have hm1:=(HM.out.later hb_w1).later ha1
  have hP1:=Two.new w1 (.int .i64 h.n) (.slice U1 (fillW h.us i.toNat c.toNat true).length c1) 28
  have o1a:=o1.later ha1
  have hb1:Below B w (w1.alloc (.cells #[.int .i64 h.n,.slice U1 (fillW h.us i.toNat c.toNat true).length c1] 28)):=(hb_w1.mono (by omega)).trans (ha1.mono (by omega))
  have hsz1:(w1.alloc (.cells #[.int .i64 h.n,.slice U1 (fillW h.us i.toNat c.toNat true).length c1] 28)).heap.size=w1.heap.size + 1:=World.size_alloc _ _
  go_wp2_with fail
  go_at_call 226
  refine (HK.out _).mono ?_
  rintro e w2 ⟨A2,ca2,M2,cm2,rfl,oA2,oM2,hb_w2⟩
  have hs2:=hb_w2.size
  rw [hsz1] at hs2
  have ha2:Below w2.heap.size w2 (w2.alloc (.cells #[.int .i64 i,.int .i64 c,.int .i64 z,.int .i64 (slotsOf z),.slice A2 (wordsN (slotsOf z)).length ca2,.int .i64 (slotsOf z),.slice M2 (wordsN (slotsOf z)).length cm2,.bool true] 72)):=Below.alloc (Below.refl _ _) (Nat.le_refl _) _
  have hm2:=(hm1.later hb_w2).later ha2
  have hP2:=(hP1.below hb_w2 (by omega)).below ha2 (by omega)
  have o2a:=(o1a.later hb_w2).later ha2
  have hb2:Below B w (w2.alloc (.cells #[.int .i64 i,.int .i64 c,.int .i64 z,.int .i64 (slotsOf z),.slice A2 (wordsN (slotsOf z)).length ca2,.int .i64 (slotsOf z),.slice M2 (wordsN (slotsOf z)).length cm2,.bool true] 72)):=(hb1.trans (hb_w2.mono (by omega))).trans (ha2.mono (by omega))
  have hsz2:(w2.alloc (.cells #[.int .i64 i,.int .i64 c,.int .i64 z,.int .i64 (slotsOf z),.slice A2 (wordsN (slotsOf z)).length ca2,.int .i64 (slotsOf z),.slice M2 (wordsN (slotsOf z)).length cm2,.bool true] 72)).heap.size=w2.heap.size + 1:=World.size_alloc _ _
  have rA2:=(oA2.later ha2).row
  have rM2:=(oM2.later ha2).row
  have hV2:=hm2.hm.v
  clear b0 b1 b2 b3 f0 f1 f2 f3 hb_w1 hb_w2 o1 o1a ha1 ha2 hm1 hP1 oA2 oM2
  obtain ⟨b0,b1,b2,b3,f0,f1,f2,f3⟩:=id hm2.box
  go_wp2_with fail
  go_region_with (go_at_call 227;refine (HAD.out _ A2 M2 ca2 cm2 (hV2.later bX) (rA2.later bX) (rM2.later bX)).mono ?_;rintro e w3 ⟨L3,cl3,vs3,rfl,hvs3,oS3,hb_w3⟩)
  all_goals
   have hb_d:Below (w2.alloc (.cells #[.int .i64 i,.int .i64 c,.int .i64 z,.int .i64 (slotsOf z),.slice A2 (wordsN (slotsOf z)).length ca2,.int .i64 (slotsOf z),.slice M2 (wordsN (slotsOf z)).length cm2,.bool true] 72)).heap.size (w2.alloc (.cells #[.int .i64 i,.int .i64 c,.int .i64 z,.int .i64 (slotsOf z),.slice A2 (wordsN (slotsOf z)).length ca2,.int .i64 (slotsOf z),.slice M2 (wordsN (slotsOf z)).length cm2,.bool true] 72)) w3:=bX
   have hm3:=hm2.later hb_d
   have hP3:=hP2.below hb_d (by omega)
   have o3a:=o2a.later hb_d
   have hs3:=hb_d.size
   rw [hsz2] at hs3
   have hb3:Below B w w3:=hb2.trans (hb_d.mono (by omega))
   obtain ⟨p0,p1,pf⟩:=id hP3
   obtain ⟨b0,b1,b2,b3,f0,f1,f2,f3⟩:=id hm3.box
   have hbl3:=hm3.lt
   have hm4:=hm3.setU (cu:=c1) (o3a.mono (B':=B) (by omega)) (o3a.apt (b:=b) (by omega))
   have aS:=oS3.aptS_ge (b:=b) (by first | omega | (simp only [zN,zD,zA];omega))
   have oS4:=(((oS3.mono (B':=B) (by first | omega | (simp only [zN,zD,zA];omega))).oth (p:=⟨b,1,none⟩) aS (.int .i64 h.n)).oth (p:=⟨b,2,none⟩) aS (.slice U1 (fillW h.us i.toNat c.toNat true).length c1))
   have hm5:=hm4.setV hvs3 oS4 aS
   have hb5:Below B w (((w3.setCell ⟨b,1,none⟩ (.int .i64 h.n)).setCell ⟨b,2,none⟩ (.slice U1 (fillW h.us i.toNat c.toNat true).length c1)).setCell ⟨b,3,none⟩ (.slice L3 L.length cl3)):=((hb3.setCell (p:=⟨b,1,none⟩) hle _).setCell (p:=⟨b,2,none⟩) hle _).setCell (p:=⟨b,3,none⟩) hle _
   have HM5:=Lib.hid hm5
   have HB5:=Lib.hid hb5
   clear hm4 hm5 hb5 oS3 oS4 aS
   go_wp2_with fail
   go_at_call 116
   refine (HSA.out _ L3 v.A U1 h.ws.length v.ca (fillW h.us i.toNat c.toNat true).length c1 cl3 HM5.out.hm.v).mono ?_
   rintro e w6 ⟨rfl,hb_w6⟩
   have hm6:=HM5.out.later hb_w6
   have hb6:Below B w w6:=HB5.out.trans (hb_w6.mono (by have:=HM5.out.lt;omega))
   go_wp2
   go_ret2
   refine ⟨rfl,⟨⟨v.A,v.ca,U1,c1,L3,cl3⟩,?_⟩,hb6⟩
   unfold groH
   rw [hL.out]
   exact hm6
theorem ok1_new {i c z:Int} (h1:Sized c z) (h2:Placed i c):Ok1 (newSd i c z):=ok1_newSd h1 h2
theorem new_bits (i c z:Int) (k:Nat):tb (newSd i c z).aw k=false∧tb (curW (newSd i c z)) k=false:=by
 have:tb (wordsN (slotsOf z)) k=false:=by unfold wordsN;exact tb_zeros _ _
 exact ⟨this,this⟩
theorem ins_old (l:List Sd) (s:Sd) (p j:Nat) (hp:p ≤ l.length):nth (insS l s p) (if j < p then j else j + 1)=nth l j:=by
 rw [insS_nth _ _ _ _ hp]
 by_cases h:j < p
 ·rw [if_pos h,if_pos h]
 ·rw [if_neg h,if_neg (by omega),if_neg (by omega)]
  rfl
theorem ins_case (l:List Sd) (s:Sd) (p j:Nat) (hp:p ≤ l.length) (hj:j < (insS l s p).length):(j=p∧nth (insS l s p) j=s) ∨ (j ≠ p∧∃ q,q < l.length∧nth (insS l s p) j=nth l q):=by
 rw [insS_len _ _ _ hp] at hj
 rw [insS_nth _ _ _ _ hp]
 by_cases h:j < p
 ·exact .inr ⟨by omega,j,by omega,by rw [if_pos h]⟩
 ·by_cases e:j=p
  ·exact .inl ⟨e,by rw [if_neg h,if_pos e]⟩
  ·exact .inr ⟨e,j - 1,by omega,by rw [if_neg h,if_neg e]⟩
theorem groH_cur {h:Hp} {i c z:Int} {p:Nat} (hp:p ≤ h.l.length) (a:Nat):Cur (groH h i c z p) a ↔ Cur h a:=by
 have hlen:=insS_len h.l (newSd i c z) p hp
 constructor
 ·rintro ⟨j,k,hj,hk,hc,ha⟩
  have hj:j < (insS h.l (newSd i c z) p).length:=hj
  have hk:k < slN (nth (insS h.l (newSd i c z) p) j):=hk
  have hc:tb (curW (nth (insS h.l (newSd i c z) p) j)) k=true:=hc
  have ha:slA (nth (insS h.l (newSd i c z) p) j) k=a:=ha
  rcases ins_case _ _ _ _ hp hj with ⟨_,e⟩ | ⟨_,q,hq,e⟩
  ·rw [e,(new_bits i c z k).2] at hc
   cases hc
  ·rw [e] at hk hc ha
   exact ⟨q,k,hq,hk,hc,ha⟩
 ·rintro ⟨j,k,hj,hk,hc,ha⟩
  have e:=ins_old h.l (newSd i c z) p j hp
  refine ⟨if j < p then j else j + 1,k,?_,?_,?_,?_⟩
  ·show _ < (insS h.l (newSd i c z) p).length
   rw [hlen];split <;> omega
  ·show k < slN (nth (insS h.l (newSd i c z) p) _)
   rw [e];exact hk
  ·show tb (curW (nth (insS h.l (newSd i c z) p) _)) k=true
   rw [e];exact hc
  ·show slA (nth (insS h.l (newSd i c z) p) _) k=a
   rw [e];exact ha
theorem groH_ok {h:Hp} (hk:OkH h) {i c z:Int} {p:Nat} (hcz:Sized c z) (hr:RunP h.us c h.n i 0) (hp:PosE h.l (newSd i c z) p) (h256:h.l.length < 256):OkH (groH h i c z p):=by
 have hcs:=hcz.slots
 obtain ⟨f1,f2,f3⟩:=hk.fit (by omega) hr
 have hn1024:=hk.n1024
 have hpl:Placed i c:=⟨by omega,by omega⟩
 have okN:=ok1_new hcz hpl
 have hple:=hp.le
 have hL:=insS_ok hk.framed.spans okN hp (grow_noclash hk (by omega) hr hp) h256
 have hlen:=insS_len h.l (newSd i c z) p hple
 have hus:=hk.framed.pages
 have hll:=hus.long
 have htb:∀ q,tb (fillW h.us i.toNat c.toNat true) q=if i.toNat ≤ q∧q < i.toNat + c.toNat then true else tb h.us q:=fun q=>tb_fillW _ _ _ _ _ (by omega)
 have hF:Framed (groH h i c z p):=⟨hk.framed.words,right_fillW hus _ _ _ (by omega),hL,hk.framed.some_,hk.framed.long⟩
 refine ⟨hF,⟨fun j hj=>?_,fun q hq=>?_⟩,⟨fun q hq hz x hx=>?_,fun j hj k hk'=>?_⟩,(linked_iff hF.spans).2 fun j k hj hk' hc=>?_⟩
 ·have hj:j < (insS h.l (newSd i c z) p).length:=hj
  show 1 ≤ (nth (insS h.l (newSd i c z) p) j).f∧(nth (insS h.l (newSd i c z) p) j).f + (nth (insS h.l (newSd i c z) p) j).p ≤ h.n
  rcases ins_case _ _ _ _ hple hj with ⟨_,e⟩ | ⟨_,q,hq,e⟩
  ·rw [e];exact ⟨f1,f2⟩
  ·rw [e];exact hk.owned.in_ q hq
 ·have hq:(q:Int) < h.n:=hq
  show tb (fillW h.us i.toNat c.toNat true) q=true ↔ Has (insS h.l (newSd i c z) p) q
  rw [htb]
  have hnew:nth (insS h.l (newSd i c z) p) p=newSd i c z:=by rw [insS_nth _ _ _ _ hple,if_neg (by omega),if_pos rfl]
  constructor
  ·intro ht
   by_cases hin:i.toNat ≤ q∧q < i.toNat + c.toNat
   ·refine .inr ⟨p,by rw [hlen];omega,?_,?_⟩
    ·rw [hnew];show i ≤ (q:Int);omega
    ·rw [hnew];show (q:Int) < i + c;omega
   ·rw [if_neg hin] at ht
    rcases (hk.owned.used q hq).1 ht with h1 | ⟨j,hj,h1,h2⟩
    ·exact .inl h1
    ·refine .inr ⟨if j < p then j else j + 1,by rw [hlen];split <;> omega,?_,?_⟩
     ·rw [ins_old _ _ _ _ hple];exact h1
     ·rw [ins_old _ _ _ _ hple];exact h2
  ·rintro (h1 | ⟨j,hj,h1,h2⟩)
   ·rw [if_neg (by omega)]
    exact (hk.owned.used q hq).2 (.inl h1)
   ·rcases ins_case _ _ _ _ hple hj with ⟨_,e⟩ | ⟨_,r,hr',e⟩
    ·rw [e] at h1 h2
     have h1:i ≤ (q:Int):=h1
     have h2:(q:Int) < i + c:=h2
     rw [if_pos (by omega)]
    ·rw [e] at h1 h2
     split
     ·rfl
     ·exact (hk.owned.used q hq).2 (.inr ⟨r,hr',h1,h2⟩)
 ·have hq:(q:Int) < h.n:=hq
  have hz:q=0 ∨ tb (fillW h.us i.toNat c.toNat true) q=false:=hz
  refine hk.filled.free q hq ?_ x hx
  rcases hz with hz | hz
  ·exact .inl hz
  ·rw [htb] at hz
   split at hz
   ·cases hz
   ·exact .inr hz
 ·have hj:j < (insS h.l (newSd i c z) p).length:=hj
  have hk':k < slN (nth (insS h.l (newSd i c z) p) j):=hk'
  show SlotOk h.ws (nth (insS h.l (newSd i c z) p) j) k
  rcases ins_case _ _ _ _ hple hj with ⟨_,e⟩ | ⟨_,q,hq,e⟩
  ·rw [e] at hk' ⊢
   have hin:=okN.slA_in hk'
   have hin1:i.toNat * 16 ≤ slA (newSd i c z) k:=hin.1
   have hin2:slA (newSd i c z) k + swd (newSd i c z) ≤ (i + c).toNat * 16:=hin.2
   refine ⟨fun ht=>?_,fun x _ hx=>?_⟩
   ·rw [(new_bits i c z k).1] at ht
    cases ht
   ·obtain ⟨y,hy⟩:∃ y,slA (newSd i c z) k + x=y:=⟨_,rfl⟩
    rw [hy]
    have h1:=f3 (y / 16) (by omega) (by omega)
    have:=hk.filled.free (y / 16) (by omega) (.inr h1) (y % 16) (Nat.mod_lt _ (by omega))
    rwa [show y / 16 * 16 + y % 16=y by omega] at this
  ·rw [e] at hk' ⊢
   exact hk.filled.sound q hq k hk'
 ·have hj:j < (insS h.l (newSd i c z) p).length:=hj
  have hk':k < slN (nth (insS h.l (newSd i c z) p) j):=hk'
  have hc:tb (curW (nth (insS h.l (newSd i c z) p) j)) k=true:=hc
  show RefsAt h.ws (Cur (groH h i c z p)) (nth (insS h.l (newSd i c z) p) j) k
  rcases ins_case _ _ _ _ hple hj with ⟨_,e⟩ | ⟨_,q,hq,e⟩
  ·rw [e,(new_bits i c z k).2] at hc
   cases hc
  ·rw [e] at hk' hc ⊢
   exact ((linked_iff hk.framed.spans).1 hk.linked q k hq hk' hc).mono fun a ha=>(groH_cur hple a).2 ha
theorem RoomE.ex (l:List Sd) (size:Int):∃ x k y,RoomE l size x k y:=by
 by_cases h:OkL l
 ·obtain ⟨x,hx⟩:=IdxE.ex l (hasRoom size)
  rcases hx with ⟨rfl,h2⟩ | ⟨i,rfl,h2⟩
  ·exact ⟨_,_,_,.inr (.inl ⟨h,.inl ⟨rfl,h2⟩,rfl,rfl,rfl⟩)⟩
  ·obtain ⟨k,hk⟩:=IdxN.ex (slotsOf (nth l i).z).toNat (fun k=>!tb (nth l i).aw k)
   exact ⟨_,_,_,.inr (.inr ⟨i,k,h,.inr ⟨i,rfl,h2⟩,hk,rfl,rfl,rfl⟩)⟩
 ·exact ⟨_,_,_,.inl ⟨h,rfl,rfl,rfl⟩⟩
section
variable {w:World} {A:Option Addr} {l:List Sd} (cap:Nat)
end
theorem szn_sized {n:Int} (h0:0 ≤ n) (h1:n ≤ 48):Sized (pgOf (n + 1)) (szn n):=by
 rcases szn_case h0 h1 with ⟨h,e,f⟩ | ⟨h,h2,e,f⟩ | ⟨h,h2,e,f⟩ | ⟨h,h2,e,f⟩ | ⟨h,e,f⟩
 all_goals
  rw [e,f]
  unfold Sized
  omega
def RooE (h:Hp) (n:Int) (i k y:Int) (h':Hp):Prop:=(0 < szn n∧RoomE h.l (szn n) i k 0∧y=0∧h'=h) ∨ (0 < szn n∧RoomE h.l (szn n) 0 0 3∧GroE h (pgOf (n + 1)) (szn n) i y h'∧k=0) ∨ (szn n=0∧GroE h (pgOf (n + 1)) (szn n) i y h'∧k=0)
theorem RoomE.y {l:List Sd} {z x k y:Int} (h:RoomE l z x k y) (ok:OkL l):y=0 ∨ (x=0∧k=0∧y=3):=by
 rcases h with ⟨h1,_⟩ | ⟨_,_,h2⟩ | ⟨i,j,_,_,_,_,_,h2⟩
 ·exact absurd ok h1
 ·exact .inr h2
 ·exact .inl h2
theorem RooE.ex {h:Hp} (hk:OkH h) {n:Int} (h0:0 ≤ n) (h1:n ≤ 48):∃ i k y h',RooE h n i k y h':=by
 have hs:=szn_sized h0 h1
 have hss:=hs.slots
 obtain ⟨r,y,h',hg⟩:=GroE.ex hk (c:=pgOf (n + 1)) (z:=szn n) (by omega)
 by_cases hz:0 < szn n
 ·obtain ⟨x,k,y',hr⟩:=RoomE.ex h.l (szn n)
  rcases hr.y hk.framed.spans with rfl | ⟨rfl,rfl,rfl⟩
  ·exact ⟨_,_,_,_,.inl ⟨hz,hr,rfl,rfl⟩⟩
  ·exact ⟨_,_,_,_,.inr (.inl ⟨hz,hr,hg,rfl⟩)⟩
 ·exact ⟨_,_,_,_,.inr (.inr ⟨by omega,hg,rfl⟩)⟩
theorem RooE.does {h:Hp} (hk:OkH h) {n:Int} (h0:0 ≤ n) (h1:n ≤ 48) {i k y:Int} {h':Hp} (hE:RooE h n i k y h') :
  (y ≠ 0∧y=6∧i=0∧k=0∧h'=h) ∨ (y=0∧OkH h'∧(∀ a,Cur h' a ↔ Cur h a)∧h'.ws=h.ws∧h'.n=h.n∧∃ I K:Nat,i=I∧k=K∧I < h'.l.length∧K < slN (nth h'.l I)∧(nth h'.l I).s=true∧tb (nth h'.l I).aw K=false∧fitsB n (nth h'.l I)=true):=by
 have hs:=szn_sized h0 h1
 have hss:=hs.slots
 have key:∀ {r:Int} {y:Int},GroE h (pgOf (n + 1)) (szn n) r y h' → (y ≠ 0∧y=6∧r=0∧(0:Int)=0∧h'=h) ∨ (y=0∧OkH h'∧(∀ a,Cur h' a ↔ Cur h a)∧h'.ws=h.ws∧h'.n=h.n∧∃ I K:Nat,r=I∧(0:Int)=K∧I < h'.l.length∧K < slN (nth h'.l I)∧(nth h'.l I).s=true∧tb (nth h'.l I).aw K=false∧fitsB n (nth h'.l I)=true):=by
  intro r y hg
  rcases hg with ⟨_,h1,h2,h3⟩ | ⟨_,_,_,h1,h2,h3⟩ | ⟨q,p,hr,h256,hp,h1,h2,h3⟩
  ·exact .inl ⟨by omega,h2,h1,rfl,h3⟩
  ·exact .inl ⟨by omega,h2,h1,rfl,h3⟩
  ·subst h3
   have hple:=hp.le
   have e:nth (insS h.l (newSd q (pgOf (n + 1)) (szn n)) p) p=newSd q (pgOf (n + 1)) (szn n):=by rw [insS_nth _ _ _ _ hple,if_neg (by omega),if_pos rfl]
   refine .inr ⟨h2,groH_ok hk hs hr hp h256,groH_cur hple,rfl,rfl,p,0,h1,rfl,?_,?_,?_,?_,?_⟩
   ·show p < (insS _ _ _).length
    rw [insS_len _ _ _ hple];omega
   ·show 0 < slN (nth (insS _ _ _) p)
    rw [e]
    show 0 < (slotsOf (szn n)).toNat
    omega
   ·show (nth (insS _ _ _) p).s=true
    rw [e];rfl
   ·show tb (nth (insS _ _ _) p).aw 0=false
    rw [e];exact (new_bits _ _ _ _).1
   ·show fitsB n (nth (insS _ _ _) p)=true
    rw [e]
    unfold fitsB newSd
    simp
 rcases hE with ⟨hz,hr,rfl,rfl⟩ | ⟨_,_,hg,rfl⟩ | ⟨_,hg,rfl⟩
 ·right
  rcases hr with ⟨_,_,_,h3⟩ | ⟨_,_,_,_,h3⟩ | ⟨I,r,hok,hI,hN,rfl,hkr,_⟩
  ·cases h3
  ·cases h3
  ·have hIl:=hI.lt
   have hh:hasRoom (szn n) (nth h'.l I)=true:=by
    rcases hI with ⟨h3,_⟩ | ⟨q,h3,h4,h5,_⟩
    ·omega
    ·obtain rfl:I=q:=by omega
     exact h5
   unfold hasRoom at hh
   simp only [Bool.and_eq_true,beq_iff_eq] at hh
   rw [hN.any] at hh
   have hr0:=of_decide_eq_true hh.2.2
   obtain ⟨K,hK⟩:∃ K:Nat,r=K:=⟨r.toNat,by omega⟩
   subst hK
   subst hkr
   have hN':K < slN (nth h'.l I)∧tb (nth h'.l I).aw K=false:=by
    rcases hN with ⟨h3,_⟩ | ⟨q,h3,h4,h5,_⟩
    ·omega
    ·obtain rfl:K=q:=by omega
     exact ⟨h4,by simpa using h5⟩
   refine ⟨rfl,hk,fun a=>Iff.rfl,rfl,rfl,I,K,rfl,rfl,hIl,hN'.1,hh.2.1,hN'.2,?_⟩
   have hsz:=(hok.at_ hIl).sized
   unfold fitsB
   rw [hh.1,beq_self_eq_true,Bool.true_and,beq_iff_eq]
   rw [hh.1] at hsz
   rcases hsz with ⟨_,h3⟩ | ⟨h3,_⟩
   ·rcases hs with ⟨_,h4⟩ | ⟨h4,_⟩
    ·rw [h3,h4]
    ·omega
   ·omega
 ·exact key hg
 ·exact key hg
set_option maxHeartbeats 2000000 in
theorem zroom_any {w:World} {B b:Nat} {v:Hv} {h:Hp} (m:WB w B b v h) (hz:Sizes w) (hk:OkH h) (n:Int) (mm:Nat) (h0:0 ≤ n) (h1:n ≤ 48) (i k y:Int) (h':Hp) (hE:RooE h n i k y h') :
  Calls Tryz.prog 76 #[.pointer (some ⟨b,0,none⟩),.agg #[.int .i64 n,.int .u64 (mm:Nat)]] w fun e w'=>e=.returned (.tuple #[.int .i64 i,.int .i64 k,.int .i64 y])∧(∃ v',WB w' B b v' h')∧Below B w w':=by
 have hle:=m.le
 have hbl:=m.lt
 have hs:=szn_sized h0 h1
 have HM:=Lib.hid m
 have HN:=Lib.hid fun (w:World) hz=>zneeds_any (w:=w) hz n mm h0 h1
 have hl256:=hk.framed.spans.1
 have HRO:=Lib.hid fun (w:World) (hv:SRow w w.heap.size v.V h.l) (x k y:Int) hF=>sroom_any (w:=w) (A:=v.V) (l:=h.l) v.cv hv (by omega) (szn n) x k y hF
 have HGR:=Lib.hid fun (w:World) (m:WB w B b v h) (r y:Int) (h':Hp) hE=>zgrow_any m hk (pgOf (n + 1)) (szn n) hs r y h' hE
 have ha0:Below w.heap.size w (w.alloc (.cells #[.int .i64 n,.int .u64 (mm:Nat)] 34)):=Below.alloc (Below.refl _ _) (Nat.le_refl _) _
 have hm0:=m.later ha0
 have hb0:Below B w (w.alloc (.cells #[.int .i64 n,.int .u64 (mm:Nat)] 34)):=ha0.mono (by omega)
 have hz0:=hz.later ha0
 have hsz0:(w.alloc (.cells #[.int .i64 n,.int .u64 (mm:Nat)] 34)).heap.size=w.heap.size + 1:=World.size_alloc _ _
 clear m hk hs hz ha0
 rcases hE with ⟨hp,hr,rfl,he⟩ | ⟨hp,hr,hg,rfl⟩ | ⟨hp,hg,rfl⟩
 ·subst h'
  have HR2:=Lib.hid fun (w:World) hv=>HRO.out w hv i k 0 hr
  have d1:decide (0 < szn n)=true:=decide_eq_true hp
  clear hr hp HRO
  generalize szn n=z at *
  generalize pgOf (n + 1)=c at *
  go_enter Tryz.func76,Tryz.ntmps76
  go_wp2_with fail
  go_at_call 156
  refine (HN.out _ hz0).mono ?_
  rintro e w1 ⟨rfl,hb_w1⟩
  have hm1:=hm0.later hb_w1
  have hs1:=hb_w1.size
  rw [hsz0] at hs1
  have hb1:Below B w w1:=hb0.trans (hb_w1.mono (by omega))
  obtain ⟨b0,b1,b2,b3,f0,f1,f2,f3⟩:=id hm1.box
  go_wp2_with fail
  go_at_call 157
  refine (HR2.out _ hm1.hm.v).mono ?_
  rintro e w2 ⟨rfl,hb_w2⟩
  have hm2:=hm1.later hb_w2
  have hb2:Below B w w2:=hb1.trans (hb_w2.mono (by omega))
  go_wp2
  go_ret3
  exact ⟨rfl,⟨v,hm2⟩,hb2⟩
 ·have HR2:=Lib.hid fun (w:World) hv=>HRO.out w hv 0 0 3 hr
  have HG2:=Lib.hid fun (w:World) m=>HGR.out w m i y h' hg
  have d1:decide (0 < szn n)=true:=decide_eq_true hp
  clear hr hp HRO HGR hg
  generalize szn n=z at *
  generalize pgOf (n + 1)=c at *
  go_enter Tryz.func76,Tryz.ntmps76
  go_wp2_with fail
  go_at_call 156
  refine (HN.out _ hz0).mono ?_
  rintro e w1 ⟨rfl,hb_w1⟩
  have hm1:=hm0.later hb_w1
  have hs1:=hb_w1.size
  rw [hsz0] at hs1
  have hb1:Below B w w1:=hb0.trans (hb_w1.mono (by omega))
  obtain ⟨b0,b1,b2,b3,f0,f1,f2,f3⟩:=id hm1.box
  go_wp2_with fail
  go_at_call 157
  refine (HR2.out _ hm1.hm.v).mono ?_
  rintro e w2 ⟨rfl,hb_w2⟩
  have hm2:=hm1.later hb_w2
  have hb2:Below B w w2:=hb1.trans (hb_w2.mono (by omega))
  clear b0 b1 b2 b3 f0 f1 f2 f3
  go_wp2_with fail
  go_at_call 158
  refine (HG2.out _ hm2).mono ?_
  rintro e w3 ⟨rfl,hm3,hb_w3⟩
  go_wp2
  go_ret3
  exact ⟨rfl,hm3,hb2.trans hb_w3⟩
 ·have HG2:=Lib.hid fun (w:World) m=>HGR.out w m i y h' hg
  have d1:decide (0 < szn n)=false:=decide_eq_false (by omega)
  clear hp HRO HGR hg
  generalize szn n=z at *
  generalize pgOf (n + 1)=c at *
  go_enter Tryz.func76,Tryz.ntmps76
  go_wp2_with fail
  go_at_call 156
  refine (HN.out _ hz0).mono ?_
  rintro e w1 ⟨rfl,hb_w1⟩
  have hm1:=hm0.later hb_w1
  have hs1:=hb_w1.size
  rw [hsz0] at hs1
  have hb1:Below B w w1:=hb0.trans (hb_w1.mono (by omega))
  go_wp2_with fail
  go_at_call 158
  refine (HG2.out _ hm1).mono ?_
  rintro e w3 ⟨rfl,hm3,hb_w3⟩
  go_wp2
  go_ret3
  exact ⟨rfl,hm3,hb1.trans hb_w3⟩
def FreshHa (w:World) (h:Hp) (a:Nat) (y:Int) (e:Ending) (w':World):Prop:=∃ v,e=.returned (.tuple #[hpV v h,.int .u64 (a:Nat),.int .i64 y])∧OwnsH w' w.heap.size v h∧Below w.heap.size w w'
def NewE (h:Hp) (n:Int) (m:Nat) (bl:Bool) (h':Hp) (a:Nat) (y:Int):Prop:=(¬ OkH h∧h'=hp0∧a=0∧y=2) ∨ (OkH h∧¬ Sh n m∧h'=h∧a=0∧y=2) ∨
 (OkH h∧Sh n m∧(∃ i k,RooE h n i k y h')∧y ≠ 0∧a=0) ∨ (OkH h∧Sh n m∧y=0∧∃ (I K:Nat) (h1:Hp),RooE h n I K 0 h1∧h'=plcH h1 I K n m bl∧a=slA (nth h1.l I) K)
theorem NewE.ex (h:Hp) (n:Int) (m:Nat) (bl:Bool):∃ h' a y,NewE h n m bl h' a y:=by
 by_cases hk:OkH h
 ·by_cases hs:Sh n m
  ·obtain ⟨i,k,y,h',hr⟩:=RooE.ex hk hs.1 hs.2.1
   rcases hr.does hk hs.1 hs.2.1 with ⟨hy,_⟩ | ⟨rfl,_,_,_,_,I,K,rfl,rfl,_⟩
   ·exact ⟨_,_,_,.inr (.inr (.inl ⟨hk,hs,⟨i,k,hr⟩,hy,rfl⟩))⟩
   ·exact ⟨_,_,_,.inr (.inr (.inr ⟨hk,hs,rfl,I,K,h',hr,rfl,rfl⟩))⟩
  ·exact ⟨_,_,_,.inr (.inl ⟨hk,hs,rfl,rfl,rfl⟩)⟩
 ·exact ⟨_,_,_,.inl ⟨hk,rfl,rfl,rfl⟩⟩
theorem Two.later {w w':World} {g:Nat} {u0 u1:Value} (h:Two w g u0 u1) (hb:Below w.heap.size w w'):Two w' g u0 u1:=h.below hb (World.block_lt_of_cell? _ _ h.c0)
section
variable {w:World} {v:Hv} {h:Hp}
set_option maxHeartbeats 4000000 in
theorem znewH_any (hz:Sizes w) (hM:HM w w.heap.size v h) (hl:h.l.length ≤ 17592186044416) (hw:h.ws.length ≤ 17592186044416) (hnil:v.V=none → v.cv=0) (n:Int) (m:Nat) (hm:m < W64) (bl:Bool) (h':Hp) (a:Nat) (y:Int) (hE:NewE h n m bl h' a y) :
  Calls Tryz.prog 15 #[hpV v h,.agg #[.int .i64 n,.int .u64 (m:Nat)],.bool bl] w fun e w'=>FreshHa w h' a y e w':=by
 rcases hE with ⟨hk,rfl,rfl,rfl⟩ | ⟨hk,hs,he,rfl,rfl⟩ | ⟨hk,hs,⟨i,k,hr⟩,hy,rfl⟩ | ⟨hk,hs,rfl,I,K,h1,hr,he,rfl⟩
 ·have HR:=Lib.hid fun (w:World) z m=>zread_bad (w:=w) (v:=v) (h:=h) z m hl hw hk
  clear hk
  unfold hpV hpv at HR
  unfold FreshHa hpV hpv
  go_enter Tryz.func15,Tryz.ntmps15
  go_wp2_with fail
  go_at_call 73
  refine (HR.out _ (hz.later bX) (hM.later bX)).mono ?_
  rintro e w1 ⟨rfl,hb_w1⟩
  obtain ⟨hc_w1,hf_w1⟩:=bcell hb_w1;have hz_w1_w_0:w.heap.size < w1.heap.size:=lY hb_w1.size;have hz_w1_w_1:w.heap.size + 1 < w1.heap.size:=lY hb_w1.size;have hz_w1_w_2:w.heap.size + 2 < w1.heap.size:=lY hb_w1.size;have hs_w1:=hb_w1.size;(try simp only [zZ] at hs_w1)
  have hR:=(B4.new ((w.alloc (.cells #[.slice v.A h.ws.length v.ca,.int .i64 h.n,.slice v.U h.us.length v.cu,.slice v.V h.l.length v.cv] 31)).alloc (.cells #[.int .i64 n,.int .u64 (m:Nat)] 34)) (.slice none 0 0) (.int .i64 0) (.slice none 0 0) (.slice none 0 0) 31).later hb_w1
  simp only [zA] at hR
  obtain ⟨r0,r1,r2,r3,z0,z1,z2,z3⟩:=id hR
  have hb1:Below w.heap.size w w1:=bX
  clear hc_w1 hf_w1
  go_wp2
  exact bodyPost_ret (res_hp3 rfl rfl (hR.all _ _ _ _)) rfl ⟨hv0,rfl,OwnsH.zero _ _,below_all hb1 (by omega) _ _ _ _⟩
 ·subst h'
  have HR:=Lib.hid fun (w:World) z m=>zread_ok (w:=w) (v:=v) (h:=h) z m hk
  have HTW:=Lib.hid fun (w:World) m=>ztwin_any (w:=w) (v:=v) (h:=h) m hk.framed hnil
  have HPK:=Lib.hid fun (w:World)=>hpack_bad (w:=w) (n:=n) (m:=m) hm hs
  clear hk hs
  unfold hpV hpv at HR HTW
  unfold FreshHa hpV hpv
  go_enter Tryz.func15,Tryz.ntmps15
  go_wp2_with fail
  go_at_call 73
  refine (HR.out _ (hz.later bX) (hM.later bX)).mono ?_
  rintro e w1 ⟨g,L,N,rfl,hg,hRd,hq,hb_w1⟩
  obtain ⟨hc_w1,hf_w1⟩:=bcell hb_w1;have hz_w1_w_0:w.heap.size < w1.heap.size:=lY hb_w1.size;have hz_w1_w_1:w.heap.size + 1 < w1.heap.size:=lY hb_w1.size;have hz_w1_w_2:w.heap.size + 2 < w1.heap.size:=lY hb_w1.size;have hs_w1:=hb_w1.size;(try simp only [zZ] at hs_w1)
  have hR:=(B4.new ((w.alloc (.cells #[.slice v.A h.ws.length v.ca,.int .i64 h.n,.slice v.U h.us.length v.cu,.slice v.V h.l.length v.cv] 31)).alloc (.cells #[.int .i64 n,.int .u64 (m:Nat)] 34)) (.slice none 0 0) (.int .i64 0) (.slice none 0 0) (.slice none 0 0) 31).later hb_w1
  simp only [zA] at hR hg
  have hSp1:=((Two.new (w.alloc (.cells #[.slice v.A h.ws.length v.ca,.int .i64 h.n,.slice v.U h.us.length v.cu,.slice v.V h.l.length v.cv] 31)) (.int .i64 n) (.int .u64 (m:Nat)) 34).old (by simp only [zA];omega) (.cells #[.slice none 0 0,.int .i64 0,.slice none 0 0,.slice none 0 0] 31)).later hb_w1
  rw [World.size_alloc] at hSp1
  have hb1:Below w.heap.size w w1:=bX
  have hs1:=hR.lt
  have hg1:=hRd.rd.lt
  obtain ⟨m0,m1,m2,m3⟩:=id hRd.rd.hb
  clear hc_w1 hf_w1
  go_wp2_with fail
  go_at_call 74
  refine (HTW.out _ (hRd.rd.mem.more (by omega))).mono ?_
  rintro e w2 ⟨v2,rfl,oH,hb_w2⟩
  have hR2:=hR.later hb_w2
  have hRd2:=hRd.later hb_w2
  have hb2:Below w.heap.size w w2:=hb1.trans (hb_w2.mono hb1.size)
  have hs2:=hb_w2.size
  have hW:=WB.new oH hb_w2.size 112
  have hb3:Below w2.heap.size w2 (w2.alloc (.cells #[.slice v2.A h.ws.length v2.ca,.int .i64 h.n,.slice v2.U h.us.length v2.cu,.slice v2.V h.l.length v2.cv] 112)):=Below.alloc (Below.refl _ _) (Nat.le_refl _) _
  have hSp3:=(hSp1.later hb_w2).later hb3
  have hR3:=hR2.later hb3
  have hRd3:=hRd2.later hb3
  have hbb3:Below w.heap.size w (w2.alloc (.cells #[.slice v2.A h.ws.length v2.ca,.int .i64 h.n,.slice v2.U h.us.length v2.cu,.slice v2.V h.l.length v2.cv] 112)):=hb2.alloc hb2.size _
  have hs3:(w2.alloc (.cells #[.slice v2.A h.ws.length v2.ca,.int .i64 h.n,.slice v2.U h.us.length v2.cu,.slice v2.V h.l.length v2.cv] 112)).heap.size=w2.heap.size + 1:=World.size_alloc _ _
  clear hb_w1 hb_w2 m0 m1 m2 m3 hR hRd oH hR2 hRd2 hb1 hb2 hb3 hSp1
  obtain ⟨s0,s1,sf⟩:=id hSp3
  go_wp2_with fail
  go_at_call 75
  refine (HPK.out _).mono ?_
  rintro e w4 ⟨rfl,hb_w4⟩
  have hW4:=hW.later hb_w4
  have hR4:=hR3.later hb_w4
  have hSp4:=hSp3.later hb_w4
  have hs4:=hb_w4.size
  rw [hs3] at hs4
  have hb4:Below w.heap.size w w4:=hbb3.trans (hb_w4.mono hbb3.size)
  clear s0 s1 sf
  obtain ⟨c0,c1,c2,c3,f0,f1,f2,f3⟩:=id hW4.box
  obtain ⟨r0,r1,r2,r3,z0,z1,z2,z3⟩:=id hR4
  go_wp2
  exact bodyPost_ret (res_hp3 rfl rfl (hR4.all _ _ _ _)) rfl ⟨v2,rfl,(hW4.owns.all (by omega) _ _ _ _).mono (by omega),below_all hb4 (by omega) _ _ _ _⟩
 ·have HR:=Lib.hid fun (w:World) z m=>zread_ok (w:=w) (v:=v) (h:=h) z m hk
  have HTW:=Lib.hid fun (w:World) m=>ztwin_any (w:=w) (v:=v) (h:=h) m hk.framed hnil
  have HPK:=Lib.hid fun (w:World)=>hpack_ok (w:=w) (n:=n) (m:=m) hs
  have HRO:=Lib.hid fun (w:World) (B b:Nat) (v:Hv) (mm:WB w B b v h) (hz:Sizes w)=>zroom_any mm hz hk n m hs.1 hs.2.1 i k y h' hr
  have d0:(y != 0)=true:=by simpa using hy
  clear hk hs hr hy
  unfold hpV hpv at HR HTW
  unfold FreshHa hpV hpv
  go_enter Tryz.func15,Tryz.ntmps15
  go_wp2_with fail
  go_at_call 73
  refine (HR.out _ (hz.later bX) (hM.later bX)).mono ?_
  rintro e w1 ⟨g,L,N,rfl,hg,hRd,hq,hb_w1⟩
  obtain ⟨hc_w1,hf_w1⟩:=bcell hb_w1;have hz_w1_w_0:w.heap.size < w1.heap.size:=lY hb_w1.size;have hz_w1_w_1:w.heap.size + 1 < w1.heap.size:=lY hb_w1.size;have hz_w1_w_2:w.heap.size + 2 < w1.heap.size:=lY hb_w1.size;have hs_w1:=hb_w1.size;(try simp only [zZ] at hs_w1)
  have hR:=(B4.new ((w.alloc (.cells #[.slice v.A h.ws.length v.ca,.int .i64 h.n,.slice v.U h.us.length v.cu,.slice v.V h.l.length v.cv] 31)).alloc (.cells #[.int .i64 n,.int .u64 (m:Nat)] 34)) (.slice none 0 0) (.int .i64 0) (.slice none 0 0) (.slice none 0 0) 31).later hb_w1
  simp only [zA] at hR hg
  have hSp1:=((Two.new (w.alloc (.cells #[.slice v.A h.ws.length v.ca,.int .i64 h.n,.slice v.U h.us.length v.cu,.slice v.V h.l.length v.cv] 31)) (.int .i64 n) (.int .u64 (m:Nat)) 34).old (by simp only [zA];omega) (.cells #[.slice none 0 0,.int .i64 0,.slice none 0 0,.slice none 0 0] 31)).later hb_w1
  rw [World.size_alloc] at hSp1
  have hb1:Below w.heap.size w w1:=bX
  have hs1:=hR.lt
  have hg1:=hRd.rd.lt
  obtain ⟨m0,m1,m2,m3⟩:=id hRd.rd.hb
  clear hc_w1 hf_w1
  go_wp2_with fail
  go_at_call 74
  refine (HTW.out _ (hRd.rd.mem.more (by omega))).mono ?_
  rintro e w2 ⟨v2,rfl,oH,hb_w2⟩
  have hR2:=hR.later hb_w2
  have hRd2:=hRd.later hb_w2
  have hb2:Below w.heap.size w w2:=hb1.trans (hb_w2.mono hb1.size)
  have hs2:=hb_w2.size
  have hW:=WB.new oH hb_w2.size 112
  have hb3:Below w2.heap.size w2 (w2.alloc (.cells #[.slice v2.A h.ws.length v2.ca,.int .i64 h.n,.slice v2.U h.us.length v2.cu,.slice v2.V h.l.length v2.cv] 112)):=Below.alloc (Below.refl _ _) (Nat.le_refl _) _
  have hSp3:=(hSp1.later hb_w2).later hb3
  have hR3:=hR2.later hb3
  have hRd3:=hRd2.later hb3
  have hbb3:Below w.heap.size w (w2.alloc (.cells #[.slice v2.A h.ws.length v2.ca,.int .i64 h.n,.slice v2.U h.us.length v2.cu,.slice v2.V h.l.length v2.cv] 112)):=hb2.alloc hb2.size _
  have hs3:(w2.alloc (.cells #[.slice v2.A h.ws.length v2.ca,.int .i64 h.n,.slice v2.U h.us.length v2.cu,.slice v2.V h.l.length v2.cv] 112)).heap.size=w2.heap.size + 1:=World.size_alloc _ _
  clear hb_w1 hb_w2 m0 m1 m2 m3 hR hRd oH hR2 hRd2 hb1 hb2 hb3 hSp1
  obtain ⟨s0,s1,sf⟩:=id hSp3
  go_wp2_with fail
  go_at_call 75
  refine (HPK.out _).mono ?_
  rintro e w4 ⟨rfl,hb_w4⟩
  have hW4:=hW.later hb_w4
  have hR4:=hR3.later hb_w4
  have hSp4:=hSp3.later hb_w4
  have hs4:=hb_w4.size
  rw [hs3] at hs4
  have hb4:Below w.heap.size w w4:=hbb3.trans (hb_w4.mono hbb3.size)
  clear s0 s1 sf
  obtain ⟨s0,s1,sf⟩:=id hSp4
  go_wp2_with fail
  go_at_call 76
  refine (HRO.out _ _ _ _ hW4 (hz.later hb4)).mono ?_
  rintro e w5 ⟨rfl,⟨v5,hW5⟩,hb_w5⟩
  have hR5:=hR4.below hb_w5 (by omega)
  have hs5:=hb_w5.size
  have hb5:Below w.heap.size w w5:=hb4.trans (hb_w5.mono (by omega))
  clear s0 s1 sf
  obtain ⟨c0,c1,c2,c3,f0,f1,f2,f3⟩:=id hW5.box
  obtain ⟨r0,r1,r2,r3,z0,z1,z2,z3⟩:=id hR5
  go_wp2
  exact bodyPost_ret (res_hp3 rfl rfl (hR5.all _ _ _ _)) rfl ⟨v5,rfl,(hW5.owns.all (by omega) _ _ _ _).mono (by omega),below_all hb5 (by omega) _ _ _ _⟩
 ·subst h'
  have HR:=Lib.hid fun (w:World) z m=>zread_ok (w:=w) (v:=v) (h:=h) z m hk
  have HTW:=Lib.hid fun (w:World) m=>ztwin_any (w:=w) (v:=v) (h:=h) m hk.framed hnil
  have HPK:=Lib.hid fun (w:World)=>hpack_ok (w:=w) (n:=n) (m:=m) hs
  have HRO:=Lib.hid fun (w:World) (B b:Nat) (v:Hv) (mm:WB w B b v h) (hz:Sizes w)=>zroom_any mm hz hk n m hs.1 hs.2.1 I K 0 h1 hr
  obtain ⟨hok1,hws,hI,hK,hfit⟩:OkH h1∧h1.ws=h.ws∧I < h1.l.length∧K < slN (nth h1.l I)∧True:=by
   rcases hr.does hk hs.1 hs.2.1 with ⟨hy,_⟩ | ⟨_,h2,_,h3,_,I',K',e1,e2,h4,h5,_⟩
   ·exact absurd rfl hy
   ·obtain rfl:I=I':=by omega
    obtain rfl:K=K':=by omega
    exact ⟨h2,h3,h4,h5,trivial⟩
  have hsw:=hok1.slotW hI hK
  have HPL:Hid (∀ (w:World) (B b:Nat) (v:Hv),WB w B b v h1 → Calls Tryz.prog 77 #[.pointer (some ⟨b,0,none⟩),.int .i64 (I:Nat),.int .i64 (K:Nat),.int .u64 (pk n m:Nat),.bool bl] w fun e w'=>e=.returned (.int .u64 ((slA (nth h1.l I) K:Nat):Int))∧(∃ v',WB w' B b v' (plcH h1 I K n m bl))∧Below B w w'):=Lib.hid fun (w:World) (B b:Nat) (v:Hv) (mm:WB w B b v h1)=>zplace_any mm hok1.framed.spans hok1.framed.words I K hI hK (by omega) (pk n m) (pk_lt n m hs) bl
  clear hk hs hr hok1 hws hI hK hfit hsw
  unfold hpV hpv at HR HTW
  unfold FreshHa hpV hpv
  go_enter Tryz.func15,Tryz.ntmps15
  go_wp2_with fail
  go_at_call 73
  refine (HR.out _ (hz.later bX) (hM.later bX)).mono ?_
  rintro e w1 ⟨g,L,N,rfl,hg,hRd,hq,hb_w1⟩
  obtain ⟨hc_w1,hf_w1⟩:=bcell hb_w1;have hz_w1_w_0:w.heap.size < w1.heap.size:=lY hb_w1.size;have hz_w1_w_1:w.heap.size + 1 < w1.heap.size:=lY hb_w1.size;have hz_w1_w_2:w.heap.size + 2 < w1.heap.size:=lY hb_w1.size;have hs_w1:=hb_w1.size;(try simp only [zZ] at hs_w1)
  have hR:=(B4.new ((w.alloc (.cells #[.slice v.A h.ws.length v.ca,.int .i64 h.n,.slice v.U h.us.length v.cu,.slice v.V h.l.length v.cv] 31)).alloc (.cells #[.int .i64 n,.int .u64 (m:Nat)] 34)) (.slice none 0 0) (.int .i64 0) (.slice none 0 0) (.slice none 0 0) 31).later hb_w1
  simp only [zA] at hR hg
  have hSp1:=((Two.new (w.alloc (.cells #[.slice v.A h.ws.length v.ca,.int .i64 h.n,.slice v.U h.us.length v.cu,.slice v.V h.l.length v.cv] 31)) (.int .i64 n) (.int .u64 (m:Nat)) 34).old (by simp only [zA];omega) (.cells #[.slice none 0 0,.int .i64 0,.slice none 0 0,.slice none 0 0] 31)).later hb_w1
  rw [World.size_alloc] at hSp1
  have hb1:Below w.heap.size w w1:=bX
  have hs1:=hR.lt
  have hg1:=hRd.rd.lt
  obtain ⟨m0,m1,m2,m3⟩:=id hRd.rd.hb
  clear hc_w1 hf_w1
  go_wp2_with fail
  go_at_call 74
  refine (HTW.out _ (hRd.rd.mem.more (by omega))).mono ?_
  rintro e w2 ⟨v2,rfl,oH,hb_w2⟩
  have hR2:=hR.later hb_w2
  have hRd2:=hRd.later hb_w2
  have hb2:Below w.heap.size w w2:=hb1.trans (hb_w2.mono hb1.size)
  have hs2:=hb_w2.size
  have hW:=WB.new oH hb_w2.size 112
  have hb3:Below w2.heap.size w2 (w2.alloc (.cells #[.slice v2.A h.ws.length v2.ca,.int .i64 h.n,.slice v2.U h.us.length v2.cu,.slice v2.V h.l.length v2.cv] 112)):=Below.alloc (Below.refl _ _) (Nat.le_refl _) _
  have hSp3:=(hSp1.later hb_w2).later hb3
  have hR3:=hR2.later hb3
  have hRd3:=hRd2.later hb3
  have hbb3:Below w.heap.size w (w2.alloc (.cells #[.slice v2.A h.ws.length v2.ca,.int .i64 h.n,.slice v2.U h.us.length v2.cu,.slice v2.V h.l.length v2.cv] 112)):=hb2.alloc hb2.size _
  have hs3:(w2.alloc (.cells #[.slice v2.A h.ws.length v2.ca,.int .i64 h.n,.slice v2.U h.us.length v2.cu,.slice v2.V h.l.length v2.cv] 112)).heap.size=w2.heap.size + 1:=World.size_alloc _ _
  clear hb_w1 hb_w2 m0 m1 m2 m3 hR hRd oH hR2 hRd2 hb1 hb2 hb3 hSp1
  obtain ⟨s0,s1,sf⟩:=id hSp3
  go_wp2_with fail
  go_at_call 75
  refine (HPK.out _).mono ?_
  rintro e w4 ⟨rfl,hb_w4⟩
  have hW4:=hW.later hb_w4
  have hR4:=hR3.later hb_w4
  have hSp4:=hSp3.later hb_w4
  have hs4:=hb_w4.size
  rw [hs3] at hs4
  have hb4:Below w.heap.size w w4:=hbb3.trans (hb_w4.mono hbb3.size)
  clear s0 s1 sf
  obtain ⟨s0,s1,sf⟩:=id hSp4
  go_wp2_with fail
  go_at_call 76
  refine (HRO.out _ _ _ _ hW4 (hz.later hb4)).mono ?_
  rintro e w5 ⟨rfl,⟨v5,hW5⟩,hb_w5⟩
  have hR5:=hR4.below hb_w5 (by omega)
  have hs5:=hb_w5.size
  have hb5:Below w.heap.size w w5:=hb4.trans (hb_w5.mono (by omega))
  clear s0 s1 sf
  clear hR4 hW4 hSp4 hSp3
  go_wp2_with fail
  go_at_call 77
  refine (HPL.out _ _ _ _ hW5).mono ?_
  rintro e w6 ⟨rfl,⟨v6,hW6⟩,hb_w6⟩
  have hR6:=hR5.below hb_w6 (by omega)
  have hs6:=hb_w6.size
  have hb6:Below w.heap.size w w6:=hb5.trans (hb_w6.mono (by omega))
  obtain ⟨c0,c1,c2,c3,f0,f1,f2,f3⟩:=id hW6.box
  obtain ⟨r0,r1,r2,r3,z0,z1,z2,z3⟩:=id hR6
  go_wp2
  exact bodyPost_ret (res_hp3 rfl rfl (hR6.all _ _ _ _)) rfl ⟨v6,rfl,(hW6.owns.all (by omega) _ _ _ _).mono (by omega),below_all hb6 (by omega) _ _ _ _⟩
end
end Go.Proofs.YtafpkaifaccehaaGreatDoor
