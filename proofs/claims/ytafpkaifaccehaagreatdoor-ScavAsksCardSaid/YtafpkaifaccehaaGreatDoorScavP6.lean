/- Parts of the proof. -/
import Derived.Test.YtafpkaifaccehaaGreatDoorScavP5
import Derived.Deep.RegionLaw
set_option linter.unusedVariables false
set_option linter.unusedSimpArgs false
namespace Go.Proofs.YtafpkaifaccehaaGreatDoor
open Go.RowKit
def wordsN (n:Int):List Nat:=List.replicate ((n + 63) / 64).toNat 0
theorem wordsN_words (n:Int):Words (wordsN n):=fun x hx=>by
 rw [List.eq_of_mem_replicate hx];decide
theorem make_ok (n:Int) (w:World) (h0:0 ≤ n) (h1:n ≤ 4096):Calls Tryz.prog 122 #[.int .i64 n] w fun e w'=>Fresh w n (wordsN n) 0 e w':=by
 have hd:decide (n < 0)=false:=by simpa using h0
 obtain ⟨k,hk⟩:=Int.eq_ofNat_of_zero_le (show 0 ≤ (n + 63) / 64 by omega)
 have hk2:k ≤ 64:=by omega
 have H:=Lib.hid hk
 clear hk
 have hmk:=run_make_words k (by omega)
 go_enter Tryz.func122,Tryz.ntmps122
 go_wp2_with (go_at_call 196;refine (wordsFor_any _ _ (by omega) (by omega)).mono ?_;rintro e w1 ⟨rfl,rfl⟩;rw [H.out])
 have hw:wordsN n=List.replicate k 0:=by unfold wordsN;rw [H.out];simp
 rw [hw]
 refine bodyPost_ret (res_bits rfl rfl (g:=w.heap.size) (by simp [go_sem] <;> rfl) (by simp [go_sem] <;> rfl)) rfl ⟨some ⟨w.heap.size + 1,0,none⟩,k,by rw [List.length_replicate];rfl,?_,bX⟩
 exact Own.of_block (block2 _ _ _) (by omega) (by rw [← hw];exact wordsN_words n)
theorem rmake_ok (n:Int) (w:World) (h0:0 ≤ n) (h1:n ≤ 4096):Calls Tryz.prog 112 #[.int .i64 n] w fun e w'=>Fresh w n (wordsN n) 0 e w':=by
 have hd:decide (n < 0)=false:=by simpa using h0
 obtain ⟨k,hk⟩:=Int.eq_ofNat_of_zero_le (show 0 ≤ (n + 63) / 64 by omega)
 have hk2:k ≤ 64:=by omega
 have H:=Lib.hid hk
 clear hk
 have hmk:=run_make_words k (by omega)
 have HO:=H.out
 go_enter Tryz.func112,Tryz.ntmps112
 go_wp2
 have hw:wordsN n=List.replicate k 0:=by unfold wordsN;rw [H.out];simp
 rw [hw]
 refine bodyPost_ret (res_bits rfl rfl (g:=w.heap.size) (by simp [go_sem] <;> rfl) (by simp [go_sem] <;> rfl)) rfl ⟨some ⟨w.heap.size + 1,0,none⟩,k,by rw [List.length_replicate];rfl,?_,bX⟩
 exact Own.of_block (block2 _ _ _) (by omega) (by rw [← hw];exact wordsN_words n)
theorem twin_bad {n:Int} {A:Option Addr} {ws:List Nat} {w:World} (cap:Nat) (hr:Row w w.heap.size A ws) (h:¬ Right n ws) :
  Calls Tryz.prog 233 #[.agg #[.int .i64 n,.slice A ws.length cap]] w fun e w'=>Fresh w 0 [] 2 e w':=by
 have hR:=Lib.hid h
 clear h
 go_enter Tryz.func233,Tryz.ntmps233
 go_wp2_with (go_at_call 146;refine (view_bad _ (hr.later bX) hR.out).mono ?_;rintro e w1 ⟨rfl,hb_w1⟩;obtain ⟨hc_w1,hf_w1⟩:=bcell hb_w1;have hz_w1_w_0:w.heap.size < w1.heap.size:=lY hb_w1.size;have hz_w1_w_1:w.heap.size + 1 < w1.heap.size:=lY hb_w1.size)
 have k0:w1.cell? ⟨w.heap.size + 1,0,none⟩=_:=(hc_w1 _ _ (by simp)).trans (by simp [go_sem];rfl)
 have k1:w1.cell? ⟨w.heap.size + 1,1,none⟩=_:=(hc_w1 _ _ (by simp)).trans (by simp [go_sem];rfl)
 exact bodyPost_ret (res_vec rfl rfl ((World.cell?_alloc_lt _ _ ⟨_,_,_⟩ (by simp;omega)).trans (set_two _ _ k0 k1).1) ((World.cell?_alloc_lt _ _ ⟨_,_,_⟩ (by simp;omega)).trans (set_two _ _ k0 k1).2)) rfl ⟨none,0,rfl,Own.nil _ _,bX⟩
theorem twin_ok {n:Int} {A:Option Addr} {ws:List Nat} {w:World} (cap:Nat) (hr:Row w w.heap.size A ws) (h:Right n ws) :
  Calls Tryz.prog 233 #[.agg #[.int .i64 n,.slice A ws.length cap]] w fun e w'=>Fresh w n ws 0 e w':=by
 have hl:ws.length ≤ 64:=by have:=h.2.2.1;have:=h.2.1;omega
 have hR:=Lib.hid h
 clear h
 have hmk:=run_make_words ws.length (by omega)
 go_enter Tryz.func233,Tryz.ntmps233
 go_wp2_with (first
  | (go_at_call 146;refine (view_ok _ (hr.later bX) hR.out).mono ?_;rintro e w1 ⟨rfl,hb_w1⟩;obtain ⟨hc_w1,hf_w1⟩:=bcell hb_w1;have hz_w1_w_0:w.heap.size < w1.heap.size:=lY hb_w1.size;have hz_w1_w_1:w.heap.size + 1 < w1.heap.size:=lY hb_w1.size)
  | (with_reducible refine wpList_copy_splice (o:=⟨some 26,_,_,_,_,_⟩) rfl (.tmp 23) (.tmp 25) 22 22 rfl 32 Tryz.underlying22 (by kernel_rfl) (some ⟨w1.heap.size + 1,0,none⟩) A ws.length ws.length ws.length cap rfl rfl (w1.heap.size + 1) 0 (vals (List.replicate ws.length 0)) 32 ?c1 (vals ws) ?c2 ?c3 ?c4 (vals_one ws) (w1.heap.size + 1) (w1.alloc (.cells #[.int .i64 n,.slice (some ⟨w1.heap.size + 1,0,none⟩) ws.length ws.length] 203)) ?c5 ?c6 ?_))
 case c1=>exact block2 _ _ _
 case c2=>rw [length_vals];exact (Nat.min_self _).symm
 case c3=>
  intro hp
  obtain ⟨ad,e,hc⟩:=(hr.later (w':=((w1.alloc (.cells #[.int .i64 n,.slice (some ⟨w1.heap.size + 1,0,none⟩) ws.length ws.length] 203)).alloc (.cells (vals (List.replicate ws.length 0)).toArray 32))) bX).src hp
  first | exact ⟨rfl,ad,e,hc⟩ | exact ⟨ad,e,hc⟩
 case c4=>rw [length_vals,length_vals,List.length_replicate];omega
 case c5=>exact (Below.refl _ _).alloc (by simp) _
 case c6=>exact Nat.le_refl _
 intro w2 HG2 hb_w2
 obtain ⟨hc_w2,hf_w2⟩:=bcell hb_w2;have hz_w2_w_0:w.heap.size < w2.heap.size:=lY hb_w2.size;have hz_w2_w_1:w.heap.size + 1 < w2.heap.size:=lY hb_w2.size;have hz_w2_w1_0:w1.heap.size < w2.heap.size:=lY hb_w2.size
 go_wp2
 have k0:w2.cell? ⟨w.heap.size + 1,0,none⟩=_:=(hc_w2 _ _ lX).trans ((World.cell?_alloc_lt _ _ ⟨_,_,_⟩ lX).trans ((hc_w1 _ _ lX).trans (by simp [go_sem];rfl)))
 have k1:w2.cell? ⟨w.heap.size + 1,1,none⟩=_:=(hc_w2 _ _ lX).trans ((World.cell?_alloc_lt _ _ ⟨_,_,_⟩ lX).trans ((hc_w1 _ _ lX).trans (by simp [go_sem];rfl)))
 have hG:=HG2.out
 rw [splice_all _ _ (by simp [vals])] at hG
 have ho:=Own.of_block hG (Nat.le_refl _) hr.words
 exact bodyPost_ret (res_vec rfl rfl (set_two _ _ k0 k1).1 (set_two _ _ k0 k1).2) rfl ⟨_,ws.length,rfl,((ho.far (.inl lX) _).far (.inl lX) _).mono lX,bX⟩
section
variable {n:Int} {A:Option Addr} {ws:List Nat} {w:World} (cap:Nat) (i:Int)
theorem get_bad (hr:Row w w.heap.size A ws) (h:¬ Right n ws) :
  Calls Tryz.prog 241 #[.agg #[.int .i64 n,.slice A ws.length cap],.int .i64 i] w fun e w'=>e=.returned (.tuple #[.bool false,.int .i64 2])∧Below w.heap.size w w':=by
 have hR:=Lib.hid h
 clear h
 go_enter Tryz.func241,Tryz.ntmps241
 go_wp2_with (go_at_call 146;refine (view_bad _ (hr.later bX) hR.out).mono ?_;rintro e w1 ⟨rfl,hb_w1⟩;obtain ⟨hc_w1,hf_w1⟩:=bcell hb_w1;have hz_w1_w_0:w.heap.size < w1.heap.size:=lY hb_w1.size)
 go_ret2
 exact ⟨rfl,bX⟩
theorem get_out (hr:Row w w.heap.size A ws) (h:Right n ws) (hi:¬ (0 ≤ i∧i < n)) :
  Calls Tryz.prog 241 #[.agg #[.int .i64 n,.slice A ws.length cap],.int .i64 i] w fun e w'=>e=.returned (.tuple #[.bool false,.int .i64 1])∧Below w.heap.size w w':=by
 have hR:=Lib.hid h
 have hI:=Lib.hid hi
 clear h hi
 go_enter Tryz.func241,Tryz.ntmps241
 go_wp2_with (first
  | (go_at_call 146;refine (view_ok _ (hr.later bX) hR.out).mono ?_;rintro e w1 ⟨rfl,hb_w1⟩;obtain ⟨hc_w1,hf_w1⟩:=bcell hb_w1;have hz_w1_w_0:w.heap.size < w1.heap.size:=lY hb_w1.size)
  | (go_at_call 267;refine (has_no n i _ _ (by simp [go_sem]) hI.out).mono ?_;rintro e w2 ⟨rfl,rfl⟩))
 go_ret2
 exact ⟨rfl,bX⟩
theorem get_in (hr:Row w w.heap.size A ws) (h:Right n ws) (h0:0 ≤ i) (h1:i < n) :
  Calls Tryz.prog 241 #[.agg #[.int .i64 n,.slice A ws.length cap],.int .i64 i] w fun e w'=>e=.returned (.tuple #[.bool (tb ws i.toNat),.int .i64 0])∧Below w.heap.size w w':=by
 have hl:=h.long
 have hl2:ws.length ≤ 64:=by have:=h.2.2.1;have:=h.2.1;omega
 have hR:=Lib.hid h
 clear h
 obtain ⟨b,off,rfl,hb,hc⟩:=hr.at_ (by omega)
 obtain ⟨x,hx⟩:=named ws (i / 64).toNat
 have hck:=hc (i / 64).toNat (by omega)
 rw [hx.out] at hck
 have hxl:x < W64:=by rw [← hx.out];exact hr.words.at_ _
 clear hc
 go_enter Tryz.func241,Tryz.ntmps241
 go_wp2_with (first
  | (go_at_call 146;refine (view_ok _ (hr.later bX) hR.out).mono ?_;rintro e w1 ⟨rfl,hb_w1⟩;obtain ⟨hc_w1,hf_w1⟩:=bcell hb_w1;have hz_w1_w_0:w.heap.size < w1.heap.size:=lY hb_w1.size;have hlt:b < w1.heap.size:=(by omega);have hck1:w1.cell? ⟨b,off + (i / 64).toNat,none⟩=some (.int .u64 (x:Nat)):=((hc_w1 _ _ lX).trans ((World.cell?_alloc_lt _ _ ⟨_,_,_⟩ lX).trans hck)))
  | (go_at_call 267;refine (has_yes n i _ _ (by simp [go_sem]) h0 h1).mono ?_;rintro e w2 ⟨rfl,rfl⟩)
  | (go_at_call 147;refine (at_any i _ b off ws.length cap x _ h0 (by omega) hl2 hxl (by simp [go_sem]) ((World.cell?_alloc_lt _ _ ⟨_,_,_⟩ lX).trans hck1)).mono ?_;rintro e w3 ⟨rfl,n3,rfl⟩))
 go_ret2
 have e:tb ws i.toNat=x.testBit (i % 64).toNat:=by
  unfold tb
  rw [show i.toNat / 64=(i / 64).toNat by omega,show i.toNat % 64=(i % 64).toNat by omega,hx.out]
 rw [e]
 exact ⟨rfl,bX⟩
end
end Go.Proofs.YtafpkaifaccehaaGreatDoor
