/- Parts of the proof. -/
import Derived.Test.YtafpkaifaccehaaGreatDoorScavP1
import Derived.WalkKit
import Derived.BigQuiet
import Derived.Deep.QuietTactic
import Derived.WalkLawsBesides
import Derived.WalkSpells
import Derived.Lib.Hide
import Derived.Outline
import Derived.Test.YtafpkaifaccehaaGreatDoorProg
set_option linter.unusedVariables false
set_option linter.unusedSimpArgs false
namespace Go.Proofs.YtafpkaifaccehaaGreatDoor
open Go.RowKit
theorem ret_bool {a b:Bool} (h:a=b):Ending.returned (.bool a)=.returned (.bool b):=by rw [h]
theorem q_left {P:Program} {f:FuncId} {args:Array Value} {w:World} {n:Nat} {v:Value} (h:Calls P f args (w.drewN n) fun e w'=>e=.returned v∧w.drewN n=w') :
  Calls P f args (w.drewN n) fun e w''=>e=.returned v∧∃ m,w''=w.drewN m:=h.mono fun _ _ ⟨he,hm⟩=>⟨he,n,hm.symm⟩
theorem wordsFor_any (n:Int) (w:World) (h0:0 ≤ n) (h1:n ≤ 4096) :
  Calls Tryz.prog 196 #[.int .i64 n] w fun e w'=>e=.returned (.int .i64 ((n + 63) / 64))∧w=w':=by
 go_enter Tryz.func196,Tryz.ntmps196
 go_wp2
 go_ret
 exact ⟨by show Ending.returned (.int .i64 ((n + 64 - 1) / 64))=_;rw [show n + 64 - 1=n + 63 by omega],rfl⟩
theorem place_any (i:Int) (w:World) (h0:0 ≤ i) (h1:i ≤ 4096) :
  Calls Tryz.prog 214 #[.int .i64 i] w fun e w'=>e=.returned (.tuple #[.int .i64 (i / 64),.int .u64 ((p2 (i % 64).toNat:Nat):Int)])∧∃ n,w'=w.drewN n:=by
 have hp:=wrap_pow (i % 64).toNat (by omega)
 go_enter Tryz.func214,Tryz.ntmps214
 go_wp2
 go_quiet (fail)
 go_wp2
 go_ret2
 exact ⟨rfl,_,rfl⟩
theorem has_any (n i:Int) (vb:Nat) (w:World) (hc:w.cell? ⟨vb,0,none⟩=some (.int .i64 n)) :
  Calls Tryz.prog 267 #[.pointer (some ⟨vb,0,none⟩),.int .i64 i] w fun e w'=>e=.returned (.bool (decide (0 ≤ i∧i < n)))∧w=w':=by
 by_cases h:0 ≤ i
 ·go_enter Tryz.func267,Tryz.ntmps267
  go_wp2
  go_ret
  have e:decide (i < n)=decide (0 ≤ i∧i < n):=by simp only [h,true_and]
  exact ⟨by show Ending.returned (.bool (decide (i < n)))=_;rw [e],rfl⟩
 ·have hd:decide (0 ≤ i)=false:=by simpa using h
  go_enter Tryz.func267,Tryz.ntmps267
  go_wp2
  go_ret
  exact ⟨by simp,rfl⟩
theorem has_yes (n i:Int) (vb:Nat) (w:World) (hc:w.cell? ⟨vb,0,none⟩=some (.int .i64 n)) (h0:0 ≤ i) (h1:i < n) :
  Calls Tryz.prog 267 #[.pointer (some ⟨vb,0,none⟩),.int .i64 i] w fun e w'=>e=.returned (.bool true)∧w=w':=
 (has_any n i vb w hc).mono fun _ _ ⟨he,hw⟩=>⟨by rw [he,decide_eq_true ⟨h0,h1⟩],hw⟩
theorem has_no (n i:Int) (vb:Nat) (w:World) (hc:w.cell? ⟨vb,0,none⟩=some (.int .i64 n)) (h:¬ (0 ≤ i∧i < n)) :
  Calls Tryz.prog 267 #[.pointer (some ⟨vb,0,none⟩),.int .i64 i] w fun e w'=>e=.returned (.bool false)∧w=w':=
 (has_any n i vb w hc).mono fun _ _ ⟨he,hw⟩=>⟨by rw [he,decide_eq_false h],hw⟩
theorem at_any (i:Int) (vb b off len cap x:Nat) (w:World) (h0:0 ≤ i) (h1:i < 64 * len) (hl:len ≤ 64) (hx:x < W64)
  (hc:w.cell? ⟨vb,1,none⟩=some (.slice (some ⟨b,off,none⟩) len cap)) (hw:w.cell? ⟨b,off + (i / 64).toNat,none⟩=some (.int .u64 x)) :
  Calls Tryz.prog 147 #[.pointer (some ⟨vb,0,none⟩),.int .i64 i] w fun e w'=>e=.returned (.bool (x.testBit (i % 64).toNat))∧∃ n,w'=w.drewN n:=by
 go_enter Tryz.func147,Tryz.ntmps147
 go_wp2_with (go_at_call 214;refine (place_any _ _ (by omega) (by omega)).mono ?_;rintro e w' ⟨rfl,n,rfl⟩)
 go_ret
 exact ⟨by show Ending.returned (.bool (bits .and .u64 (x:Int) ((p2 (i % 64).toNat:Nat):Int) != 0))=_;rw [and_pow x _ hx (by omega)],_,rfl⟩
theorem set_any (i:Int) (v:Bool) (vb b off len cap x:Nat) (w:World) (h0:0 ≤ i) (h1:i < 64 * len) (hl:len ≤ 64) (hx:x < W64)
  (hc:w.cell? ⟨vb,1,none⟩=some (.slice (some ⟨b,off,none⟩) len cap)) (hw:w.cell? ⟨b,off + (i / 64).toNat,none⟩=some (.int .u64 x)) (hf:w.frozen? ⟨b,off + (i / 64).toNat,none⟩=false) :
  Calls Tryz.prog 234 #[.pointer (some ⟨vb,0,none⟩),.int .i64 i,.bool v] w fun e w'=>e=.returned (.tuple #[]) ∧
   ∃ n,w'=(w.setCell ⟨b,off + (i / 64).toNat,none⟩ (.int .u64 (setBit x (i % 64).toNat v:Nat))).drewN n:=by
 have ho:=or_pow x (i % 64).toNat hx (by omega)
 have ha:=andNot_pow x (i % 64).toNat hx (by omega)
 cases v
 ·go_enter Tryz.func234,Tryz.ntmps234
  go_wp2_with (go_at_call 214;refine (place_any _ _ (by omega) (by omega)).mono ?_;rintro e w' ⟨rfl,n,rfl⟩)
  go_end0
  exact ⟨rfl,_,rfl⟩
 ·go_enter Tryz.func234,Tryz.ntmps234
  go_wp2_with (go_at_call 214;refine (place_any _ _ (by omega) (by omega)).mono ?_;rintro e w' ⟨rfl,n,rfl⟩)
  go_end0
  exact ⟨rfl,_,rfl⟩
end Go.Proofs.YtafpkaifaccehaaGreatDoor
