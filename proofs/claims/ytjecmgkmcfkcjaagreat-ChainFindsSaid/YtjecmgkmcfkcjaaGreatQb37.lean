/-
  Texts beneath the proof.
-/
import Derived.Test.YtjecmgkmcfkcjaaGreatQb36
set_option linter.unusedVariables false
set_option linter.unusedSimpArgs false
set_option maxRecDepth 100000
set_option maxHeartbeats 4000000
open Go.ChangeShapes Go.WideShapes Go.ChangeAt Go.RowKit
namespace Go.Proofs.YtjecmgkmcfkcjaaGreat
namespace Vh
open Bytes8 Blk8 Own8 OwnE Rows2 Ob Ga Gb Ok7 Rc Vf
open Yp Ye
open Rl (res_slot_cell)
open Re (load_code)
attribute [local irreducible] HD.cells wpList Code.wp
theorem vtab_cl {gv:Nat}{h:HD}{A:Option Addr}{n c:Nat}{l:List Int}(kd:Int)(g2 g3:Nat)(w:World)(v:ViewAt w gv h A n c l)(hcm:c≤maxLen)(H2:Blk w g2 [.pointer (some ⟨gv,0,none⟩)] 27)(H3:Blk w g3 [.int .i64 kd] 3):
 Calls Tryz.prog 128 #[.pointer (some ⟨g2,0,none⟩),.pointer (some ⟨g3,0,none⟩)] w (ReadT h l kd w):=by
 have c2:=H2.cell (i:=0) rfl
 have c3:=H3.cell (i:=0) rfl
 have HV:=Lib.hid (vtable_any kd w v hcm)
 unfold ReadT at HV⊢
 generalize tCode h l kd=cd at*
 generalize tNum h l kd=nn at*
 generalize taA (bodyL l (tOff h kd))=fa at*
 generalize taB (bodyL l (tOff h kd))=fb at*
 clear v H2 H3
 by_cases hz:cd=0
 ·subst hz
  go_enter Tryz.func128,Tryz.ntmps128
  go_wp2_with(first
   |(go_at_call 129;(refine HV.out.mono ?_);rintro e w3 ⟨hb3,⟨hne,_⟩|⟨_,A2,c2',rfl,hi2⟩⟩;(exact absurd rfl hne);have B3:=Lib.hid hb3;have I3:=Lib.hid hi2;clear hb3 hi2)
   |fail)
  go_ret
  exact⟨B3.out,.inr ⟨trivial,A2,c2',rfl,I3.out⟩⟩
 ·go_enter Tryz.func128,Tryz.ntmps128
  go_wp2_with(first
   |(go_at_call 129;(refine HV.out.mono ?_);rintro e w3 ⟨hb3,⟨_,rfl⟩|⟨he,_⟩⟩;rotate_left;(exact absurd he hz);have B3:=Lib.hid hb3;clear hb3)
   |fail)
  exact⟨rfl,B3.out,.inl ⟨hz,rfl⟩⟩
theorem tNum_none {h:HD}{l:List Int}{kd:Int}(hz:tCode h l kd≠0):tNum h l kd=0:=if_neg hz
theorem asked_any {gv:Nat}{h:HD}{A:Option Addr}{n c:Nat}{l:List Int}(kd:Int)(g2 g3:Nat)(w:World)(v:ViewAt w gv h A n c l)(hcm:c≤maxLen)(H2:Blk w g2 [.pointer (some ⟨gv,0,none⟩)] 27)(H3:Blk w g3 [.int .i64 kd] 3):
 Calls Tryz.prog 127 #[.func (.func 128) #[] #[.pointer (some ⟨g2,0,none⟩),.pointer (some ⟨g3,0,none⟩)]] w (TellT h l kd w):=by
 have b2:=Lib.hid ((Below.refl w.heap.size w).alloc (Nat.le_refl _) (.cells #[.int .i64 0] 3))
 have v2:=v.below b2.out
 have HV:=Lib.hid (vtab_cl kd g2 g3 _ v2 hcm (H2.below b2.out H2.lt) (H3.below b2.out H3.lt))
 have S2:(w.alloc (.cells #[.int .i64 0] 3)).heap.size=w.heap.size+1:=by simp only[World.alloc,Array.size_push]
 have R2:=Lib.hid (Blk.new w [.int .i64 0] 3)
 have hfn: ∀(fn:Fn) (first cap:Array Value) (w:World),(Instr.makeFunc fn first cap).run Tryz.prog w= .ok (.func fn first cap) w:=fun _ _ _ _=>rfl
 have hnn:=tNum_none (h:=h) (l:=l) (kd:=kd)
 unfold ReadT at HV
 unfold TellT
 generalize tCode h l kd=cd at*
 generalize tNum h l kd=nn at*
 generalize taA (bodyL l (tOff h kd))=fa at*
 generalize taB (bodyL l (tOff h kd))=fb at*
 have HNN:=Lib.hid hnn
 clear v v2 H2 H3 hnn
 by_cases hz:cd=0
 ·subst hz
  go_enter_defers Tryz.func127,Tryz.ntmps127
  go_wp2_with(first
   |(go_at_call 128;(refine HV.out.mono ?_);rintro e w3 ⟨hb3,⟨hne,_⟩|⟨_,A2,c2',rfl,hi2⟩⟩;(exact absurd rfl hne);have B3:=Lib.hid (b2.out.trans (hb3.mono b2.out.size));have I3:=Lib.hid hi2;have R3:=Lib.hid (R2.out.below hb3 (by rw[S2];omega));have c4:=R3.out.cell (i:=0) rfl;have z4:=R3.out.frozen 0;clear hb3 hi2)
   |fail)
  refine leaves_cons (f:=181) (args:= #[.pointer (some ⟨w.heap.size,0,none⟩)]) (by simp) (by simp[go_sem]) ?_
  refine(caught_idle _ _).mono ?_
  rintro e u' w'' ⟨rfl,rfl,rfl⟩
  have b4:=B3.out.setCell (p:=⟨w.heap.size,0,none⟩) (Nat.le_refl _) (.int .i64 0)
  exact⟨.tuple #[.slice A2 nn c2',.int .i64 0],(by exact res_slot_cell Tryz.results127 _ _ w.heap.size _ _ rfl rfl (load_code _ _ _ (R3.out.set_ 0 _))),b4,A2,c2',rfl,in2_code I3.out R3.out _⟩
 ·have hn0:=HNN.out hz
  subst hn0
  go_enter_defers Tryz.func127,Tryz.ntmps127
  go_wp2_with(first
   |(go_at_call 128;(refine HV.out.mono ?_);rintro e w3 ⟨hb3,⟨_,rfl⟩|⟨he,_⟩⟩;rotate_left;(exact absurd he hz);have B3:=Lib.hid (b2.out.trans (hb3.mono b2.out.size));have R3:=Lib.hid (R2.out.below hb3 (by rw[S2];omega));clear hb3)
   |fail)
  refine leaves_cons (f:=181) (args:= #[.pointer (some ⟨w.heap.size,0,none⟩)]) (by simp) (by simp[go_sem]) ?_
  refine(caught_halt _ cd 0 [] _ R3.out).mono ?_
  rintro e u' w'' ⟨rfl,rfl,rfl⟩
  have b4:=B3.out.setCell (p:=⟨w.heap.size,0,none⟩) (Nat.le_refl _) (.int .i64 cd)
  exact⟨.tuple #[.slice none 0 0,.int .i64 cd],(by exact res_slot_cell Tryz.results127 _ _ w.heap.size _ _ rfl rfl (load_code _ _ _ (R3.out.set_ 0 _))),b4,none,0,rfl,fun i hi=>absurd hi (Nat.not_lt_zero i)⟩
theorem tabTell {gv:Nat}{h:HD}{A:Option Addr}{n c:Nat}{l:List Int}(kd:Int)(w:World)(v:ViewAt w gv h A n c l)(hcm:c≤maxLen):
 Calls Tryz.prog 71 #[.pointer (some ⟨gv,0,none⟩),.int .i64 kd] w (TellT h l kd w):=by
 have b1:=Lib.hid ((Below.refl w.heap.size w).alloc (Nat.le_refl _) (.cells #[.pointer (some ⟨gv,0,none⟩)] 27))
 have b2:=Lib.hid (b1.out.alloc b1.out.size (.cells #[.int .i64 kd] 3))
 have v2:=v.below b2.out
 have S1:(w.alloc (.cells #[.pointer (some ⟨gv,0,none⟩)] 27)).heap.size=w.heap.size+1:=by simp only[World.alloc,Array.size_push]
 have K1:=(Blk.new w [.pointer (some ⟨gv,0,none⟩)] 27).alloc (.cells #[.int .i64 kd] 3)
 have K2:=Blk.new_at (w.alloc (.cells #[.pointer (some ⟨gv,0,none⟩)] 27)) [.int .i64 kd] 3 _ S1
 have HV:=Lib.hid (asked_any kd w.heap.size (w.heap.size+1) _ v2 hcm K1 K2)
 have hfn: ∀(fn:Fn) (first cap:Array Value) (w:World),(Instr.makeFunc fn first cap).run Tryz.prog w= .ok (.func fn first cap) w:=fun _ _ _ _=>rfl
 unfold TellT at HV⊢
 generalize tCode h l kd=cd at*
 generalize tNum h l kd=nn at*
 generalize taA (bodyL l (tOff h kd))=fa at*
 generalize taB (bodyL l (tOff h kd))=fb at*
 clear v v2 K1 K2
 go_enter Tryz.func71,Tryz.ntmps71
 go_wp2_with(first
  |(go_at_call 127;(refine HV.out.mono ?_);rintro e w4 ⟨hb4,A2,c2',rfl,hi2⟩;have B4:=Lib.hid (b2.out.trans (hb4.mono b2.out.size));have I4:=Lib.hid hi2;clear hb4 hi2)
  |fail)
 go_ret2
 exact⟨B4.out,A2,c2',rfl,I4.out⟩
end Vh
namespace Wb
open Ga Gb
open Ye
attribute [local irreducible] HD.cells wpList Code.wp
end Wb
namespace Wd
def its (g:Nat→Int):Nat→Nat→List (Int×Int)
 |0,_=>[]
 |m+1,i=>(g i,0)::its g m (i+1)
end Wd
namespace Wc
open Ga Gb
open Ye
open Rd (dcode)
attribute [local irreducible] HD.cells wpList Code.wp
end Wc
end Go.Proofs.YtjecmgkmcfkcjaaGreat
