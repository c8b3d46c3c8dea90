/-
  Texts beneath the proof.
-/
import Derived.Test.YtjecmgkmcfkcjaaGreatQa1
import Derived.BigRegion
import Derived.Test.YtjecmgkmcfkcjaaGreatQa36
import Derived.Test.YtjecmgkmcfkcjaaGreatQa11
import Derived.Test.YtjecmgkmcfkcjaaGreatQa37
set_option linter.unusedVariables false
set_option linter.unusedSimpArgs false
set_option maxRecDepth 100000
set_option maxHeartbeats 4000000
open Go.ChangeShapes Go.WideShapes Go.ChangeAt Go.RowKit
namespace Go.Proofs.YtjecmgkmcfkcjaaGreat
namespace Vd
open Bytes8 Blk8 Own8 OwnM OwnE Rows2 Ob Od Ga Gb Gf Gi Gj Gq Gt Ok7 Ns Ra Rc Va
open Go1 (hcode rhd hread_any HTold magicB)
theorem rwhole {w:World}{g:Nat}{T:TypeId}{h:HD}{m:Nat}(hb:Blk w g (h.cells m) T):w.rangeAt g 0 (h.cells m):=fun j v hj=>by rw[Nat.zero_add];exact hb.cell hj
theorem rview_built (h:HD)(d:Int)(b:Value)(A:Option Addr)(n c:Nat)(e:b= .slice A n c):Tryz.prog.built 131 [(0,.agg (h.cells 20).toArray),(1,.int .u64 d),(2,b)]=some (h.cells 20++([.int .u64 d,b]:List Value)).toArray:=by subst e;kernel_rfl
def bldRV (parts:Array (Nat×Value)):Sem Value:=Instr.build 131 parts
theorem bldRV_fold (parts:Array (Nat×Value)):Instr.build 131 parts=bldRV parts:=rfl
theorem build_rview (h:HD)(d:Int)(A:Option Addr)(n c:Nat)(w:World):(bldRV #[(0,.agg (h.cells 20).toArray),(1,.int .u64 d),(2,.slice A n c)]).run Tryz.prog w= .ok (.agg (h.cells 20++([.int .u64 d,.slice A n c]:List Value)).toArray) w:=by
 unfold bldRV
 exact run_build w _ _ _ (rview_built h d _ A n c rfl)
def OpenedR (l:List Int)(E:Nat)(w:World)(e:Ending)(w':World):Prop:= ∃(gv:Nat) (A2:Option Addr) (c2:Nat),e= .returned (.tuple #[.pointer (some ⟨gv,0,none⟩),.int .i64 0])∧w.heap.size≤gv∧ViewR w' gv (hdOf l) (Ob.u8 l 248) A2 E c2 (l.take E)∧Below w.heap.size w w'
attribute [local irreducible] HD.cells wpList Code.wp
theorem open_bad (l:List Int)(A:Option Addr)(n c:Nat)(w:World)(hb:Bytes w A l)(hL:l.length=n)(hn:n≤800000)(hc:n≤c)(hz:hcode l n≠0):
 Calls Tryz.prog 15 #[.slice A n c] w fun e w'=>e= .returned (.tuple #[.pointer none,.int .i64 (hcode l n)])∧Below w.heap.size w w':=by
 have HR:=jH (by have k:=hread_any A l n c w hb hL (by omega) hc;rw[show rhd l n=hd0 from if_neg hz]at k;exact k)
 unfold HTold at HR
 have d1:(hcode l n !=0)=true:=by simpa using hz
 generalize hcode l n=cd at*
 clear hb hL
 go_enter Tryz.func15,Tryz.ntmps15
 go_wp2_with(first
  |(go_at_call 66;((refine HR.out.mono ?_);rintro e w1 ⟨rfl,hb1⟩;have B1:=jH hb1;clear hb1))
  |((with_reducible apply at_store (.tmp 4) (.tmp 11));refine wpList_store_row rfl 78 (.tmp 4) (.tmp 11) rfl w1.heap.size (hd0.cells 21).toArray rfl rfl 78 Tryz.zeroCells78 (heap_alloc_new w1 _) (cells_info _) zeros_size (HD.one _ 21) ?_)
  |fail)
 have B2:=jH (show Below w.heap.size w ((w1.alloc (.cells Tryz.zeroCells78 78)).setRow w1.heap.size (hd0.cells 21).toArray)from below_setRow (B1.out.alloc B1.out.size _) B1.out.size _)
 go_ret2
 exact⟨rfl,B2.out⟩
theorem ropen_bad (l:List Int)(A:Option Addr)(n c:Nat)(w:World)(hb:Bytes w A l)(hL:l.length=n)(hn:n≤800000)(hc:n≤c)(hz:hcode l n≠0):
 Calls Tryz.prog 16 #[.slice A n c] w fun e w'=>e= .returned (.tuple #[.pointer none,.int .i64 (hcode l n)])∧Below w.heap.size w w':=by
 have HR:=jH (rreadHead_any A l n c w hb hL (by omega) hc)
 rw[if_neg hz,if_neg hz]at HR
 unfold RTold at HR
 have d1:(hcode l n !=0)=true:=by simpa using hz
 generalize hcode l n=cd at*
 clear hb hL
 go_enter Tryz.func16,Tryz.ntmps16
 go_wp2_with(first
  |(go_at_call 69;((refine HR.out.mono ?_);rintro e w1 ⟨rfl,hb1⟩;have B1:=jH hb1;clear hb1))
  |((with_reducible apply at_store (.tmp 4) (.tmp 12));refine wpList_store_row rfl 126 (.tmp 4) (.tmp 12) rfl w1.heap.size (hd0.cells 20).toArray rfl rfl 126 Tryz.zeroCells126 (heap_alloc_new w1 _) (rcells_info _) rzeros_size (HD.one _ 20) ?_)
  |fail)
 have B2:=jH (show Below w.heap.size w ((w1.alloc (.cells Tryz.zeroCells126 126)).setRow w1.heap.size (hd0.cells 20).toArray)from below_setRow (B1.out.alloc B1.out.size _) B1.out.size _)
 go_ret2
 exact⟨rfl,B2.out⟩
attribute [local go_sem ↓] bldRV_fold
theorem ropen_fine (l:List Int)(A:Option Addr)(n c:Nat)(w:World)(hb:Bytes w A l)(hL:l.length=n)(hn:n≤800000)(hc:n≤c)(hz:hcode l n=0)(E:Nat)(hE:endV (hdOf l)=(E:Int))(hEB:endB (hdOf l)=true)(hEn:E≤n)(hok:(hdOf l).Ok 21):
 Calls Tryz.prog 16 #[.slice A n c] w (OpenedR l E w):=by
 have HR:=jH (rreadHead_any A l n c w hb hL (by omega) hc)
 rw[if_pos hz,if_pos hz,hz]at HR
 unfold RTold at HR
 have HE:=jH fun(W:World)=>rend_any (hdOf l) (hdOf_ok hb.1 20) W
 rw[hE,hEB]at HE
 have HB:=jH hb
 unfold OpenedR
 have HLB:=jH hL
 have HOk:=jH hok
 have hTk:(l.take E).length=E:=by rw[List.length_take];omega
 generalize hdOf l=H at*
 generalize Ob.u8 l 248=dp at*
 clear hok hb hL hz hE hEB
 go_enter Tryz.func16,Tryz.ntmps16
 go_upto_region 4 with(first
  |(go_at_call 69;((refine HR.out.mono ?_);rintro e w1 ⟨rfl,hb1⟩;have B1:=jH hb1;clear hb1))
  |((with_reducible apply at_store (.tmp 4) (.tmp 12));refine wpList_store_row rfl 126 (.tmp 4) (.tmp 12) rfl w1.heap.size (H.cells 20).toArray rfl rfl 126 Tryz.zeroCells126 (heap_alloc_new w1 _) (rcells_info _) rzeros_size (HD.one _ 20) ?_)
  |fail)
 have R2:=jH (show Blk ((w1.alloc (.cells Tryz.zeroCells126 126)).setRow w1.heap.size (H.cells 20).toArray) w1.heap.size (H.cells 20) 126 from setRow_heap _ _ _ _ _ (0,0) (heap_alloc_new w1 _))
 have B2:=jH (show Below w.heap.size w ((w1.alloc (.cells Tryz.zeroCells126 126)).setRow w1.heap.size (H.cells 20).toArray)from below_setRow (B1.out.alloc B1.out.size _) B1.out.size _)
 generalize (w1.alloc (.cells Tryz.zeroCells126 126)).setRow w1.heap.size (H.cells 20).toArray=w2 at*
 generalize w1.heap.size=s4 at*
 clear HR B1
 go_upto_region 5 with(first
  |((with_reducible apply at_slot 19);refine wpList_load_row rfl 126 (.tmp 4) rfl s4 rfl 126 (H.cells 20).toArray (0,0) _ R2.out Tryz.underlying126 rfl (rcells_info _) ?_)
  |(go_at_call 70;((refine(HE.out _).mono ?_);rintro e w4 ⟨rfl,hb4⟩;have B4:=jH (B2.out.trans (hb4.mono B2.out.size));have R4:=jH (R2.out.below hb4 R2.out.lt);clear hb4))
  |fail)
 have D4:=jH (show Below w4.heap.size w4 w4.drew from(Below.refl w4.heap.size w4).drew)
 have HS:=jH fun(W:World) (hW:Below w4.heap.size w4 W)=>show(fun W:World=>W.rangeAt s4 0 (H.cells 20)) W from rwhole (R4.out.below hW R4.out.lt)
 have hcut:=fun W:World=>cut_hu A n c E (by omega) (by omega) W
 have BE:=jH (show Below w4.heap.size w4 (w4.drew.alloc (.cells #[] 5))from D4.out.alloc D4.out.size _)
 have HOw:=jH (Own.made w4.drew w4.heap.size (jR _))
 have HBe:=jH (show Bytes (w4.drew.alloc (.cells #[] 5)) (cutA A c 0) (l.take E)from by
  have k:=Bytes.cut ((HB.out.below B4.out (jR _)).below BE.out (jR _)) c 0 E (by rw[HLB.out];exact hc)
  rw[List.drop_zero]at k
  exact k)
 have hbld:=fun(A':Option Addr) (c':Nat) (W:World)=>build_rview H dp A' E c' W
 clear HE R2 B2 HB HLB hc
 refine wp_region_noPanic ?_
 refine wp_region_held_drew (S:=fun W:World=>W.rangeAt s4 0 (H.cells 20)) (by kernel_rfl) (by exact(HS.out _ D4.out)) (fun hHeld=>?_)
 refine tk (i:=0) (oi:=⟨some 23,_,_,_,_,_⟩) rfl (yieldsIf_load_mid (by rfl) _ _ rfl _ _ rfl _ _ (fun _ h=>h) Tryz.underlying126 rfl (rcells_len _)) ?_
 try simp only[Act.put,sA,sZ,sS]
 refine tk (i:=1) (oi:=⟨some 24,_,_,_,_,_⟩) (v:=?_) rfl (Or.inl ⟨by rfl,?_⟩) ?_
 rotate_left
 ·intro W hSw;go_simp;try (with_reducible rfl)
 try simp only[Act.put,sA,sZ,sS]
 refine tk (i:=3) (oi:=⟨some 26,_,_,_,_,_⟩) (v:=?_) rfl (Or.inl ⟨by rfl,?_⟩) ?_
 rotate_left
 ·intro W hSw;go_simp;try (with_reducible rfl)
 try simp only[Act.put,sA,sZ,sS]
 refine tk (i:=4) (oi:=⟨some 27,_,_,_,_,_⟩) (v:=?_) rfl (Or.inl ⟨by rfl,?_⟩) ?_
 rotate_left
 ·intro W hSw;go_simp;try (with_reducible rfl)
 try simp only[Act.put,sA,sZ,sS]
 refine tk (i:=5) (oi:=⟨some 28,_,_,_,_,_⟩) (v:=?_) rfl (Or.inl ⟨by rfl,?_⟩) ?_
 rotate_left
 ·intro W hSw;go_simp;try (with_reducible rfl)
 try simp only[Act.put,sA,sZ,sS]
 refine wpAnyH_ready (rs:=[2]) (by kernel_rfl) (by simp) ?_
 refine AllReadyH.cons (o:=⟨some 25,_,_,_,_,_⟩) rfl (fun K hK=>?_) AllReadyH.nil
 go_simp
 skip
 try go_wp2_with fail
 refine hK.out _ _ (by exact(HS.out _ BE.out)) (fun hHeld=>?_)
 clear hK K
 try simp only[Act.put,sA,sZ,sS]
 refine wpAnyH_ready (rs:=[6]) (by kernel_rfl) (by simp) ?_
 refine AllReadyH.cons (o:=⟨some 29,_,_,_,_,_⟩) rfl (fun K hK=>?_) AllReadyH.nil
 refine step_append_bytes (o:=⟨some 29,_,_,_,_,_⟩) rfl (.tmp 25) (.tmp 28) rfl w4.heap.size _ 0 0 [] rfl HOw.out (cutA A c 0) E c (l.take E) rfl HBe.out hTk (by omega) ?_
 intro A5 c5 w5 ho5 hb5
 rw[Nat.zero_add,List.nil_append]at ho5
 have HO5:=jH ho5
 have B5:=jH (BE.out.trans hb5)
 clear ho5 hb5
 refine hK.out _ _ (by exact(HS.out _ B5.out)) (fun hHeld=>?_)
 clear hK K
 try simp only[Act.put,sA,sZ,sS]
 refine tk (i:=7) (oi:=⟨some 30,_,_,_,_,_⟩) (v:=?_) rfl (Or.inl ⟨by rfl,?_⟩) ?_
 rotate_left
 ·intro W hSw;go_simp;try (with_reducible rfl)
 try simp only[Act.put,sA,sZ,sS]
 refine wpAnyH_ready (rs:=[8]) (by kernel_rfl) (by simp) ?_
 refine AllReadyH.cons (o:=⟨some 31,_,_,_,_,_⟩) rfl (fun K hK=>?_) AllReadyH.nil
 go_simp
 skip
 try go_wp2_with fail
 refine hK.out _ _ (by exact(HS.out _ (B5.out.alloc B5.out.size _))) (fun hHeld=>?_)
 clear hK K
 try simp only[Act.put,sA,sZ,sS]
 refine tk (i:=9) (oi:=⟨some 2,_,_,_,_,_⟩) (v:=?_) rfl (Or.inl ⟨by rfl,?_⟩) ?_
 rotate_left
 ·intro W hSw;go_simp;try (with_reducible rfl)
 try simp only[Act.put,sA,sZ,sS]
 refine tk (i:=10) (oi:=⟨some 3,_,_,_,_,_⟩) (v:=?_) rfl (Or.inl ⟨by rfl,?_⟩) ?_
 rotate_left
 ·intro W hSw;go_simp;try (with_reducible rfl)
 try simp only[Act.put,sA,sZ,sS]
 refine wpAnyH_done (by kernel_rfl) ?_ _
 refine NoPanic.normal ?_
 go_wp2
 go_ret2
 exact⟨_,A5,c5,rfl,Nat.le_trans B4.out.size B5.out.size,⟨Blk.new w5 _ _,HO5.out.bytes.below ((Below.refl _ _).alloc (jR _) _) (jR _),hTk,(own_cap HO5.out).1,(own_cap HO5.out).2,by omega,HOk.out⟩,B4.out.trans ((B5.out.alloc B5.out.size _).mono B4.out.size)⟩
end Vd
namespace Vh
open Bytes8 Blk8 Own8 OwnE Rows2 Ob Ga Gb Ok7 Rc Va Vf
open Yp Ye Yh
open Yl (rreadTable_any)
open Rl (res_slot_cell)
open Re (load_code)
attribute [local irreducible] HD.cells wpList Code.wp
theorem vtab_cl {gv:Nat}{h:HD}{A:Option Addr}{n c:Nat}{l:List Int}(kd:Int)(g2 g3:Nat)(w:World)(v:ViewAt w gv h A n c l)(hcm:c≤maxLen)(H2:Blk w g2 [.pointer (some ⟨gv,0,none⟩)] 27)(H3:Blk w g3 [.int .i64 kd] 3):
 Calls Tryz.prog 128 #[.pointer (some ⟨g2,0,none⟩),.pointer (some ⟨g3,0,none⟩)] w (ReadT h l kd w):=by
 have c2:=H2.cell (i:=0) rfl
 have c3:=H3.cell (i:=0) rfl
 have HV:=jH (vtable_any kd w v hcm)
 unfold ReadT at HV⊢
 generalize tCode h l kd=cd at*
 generalize tNum h l kd=nn at*
 generalize taA (bodyL l (tOff h kd))=fa at*
 generalize taB (bodyL l (tOff h kd))=fb at*
 clear v H2 H3
 by_cases hz:cd=0
 ·subst hz
  go_enter Tryz.func128,Tryz.ntmps128
  go_wp2_with(first
   |(go_at_call 129;(refine HV.out.mono ?_);rintro e w3 ⟨hb3,⟨hne,_⟩|⟨_,A2,c2',rfl,hi2⟩⟩;(exact absurd rfl hne);have B3:=jH hb3;have I3:=jH hi2;clear hb3 hi2)
   |fail)
  go_ret
  exact⟨B3.out,.inr ⟨trivial,A2,c2',rfl,I3.out⟩⟩
 ·go_enter Tryz.func128,Tryz.ntmps128
  go_wp2_with(first
   |(go_at_call 129;(refine HV.out.mono ?_);rintro e w3 ⟨hb3,⟨_,rfl⟩|⟨he,_⟩⟩;rotate_left;(exact absurd he hz);have B3:=jH hb3;clear hb3)
   |fail)
  exact⟨rfl,B3.out,.inl ⟨hz,rfl⟩⟩
theorem tNum_none {h:HD}{l:List Int}{kd:Int}(hz:tCode h l kd≠0):tNum h l kd=0:=if_neg hz
theorem asked_any {gv:Nat}{h:HD}{A:Option Addr}{n c:Nat}{l:List Int}(kd:Int)(g2 g3:Nat)(w:World)(v:ViewAt w gv h A n c l)(hcm:c≤maxLen)(H2:Blk w g2 [.pointer (some ⟨gv,0,none⟩)] 27)(H3:Blk w g3 [.int .i64 kd] 3):
 Calls Tryz.prog 127 #[.func (.func 128) #[] #[.pointer (some ⟨g2,0,none⟩),.pointer (some ⟨g3,0,none⟩)]] w (TellT h l kd w):=by
 have b2:=jH ((Below.refl w.heap.size w).alloc (jR _) (.cells #[.int .i64 0] 3))
 have v2:=v.below b2.out
 have HV:=jH (vtab_cl kd g2 g3 _ v2 hcm (H2.below b2.out H2.lt) (H3.below b2.out H3.lt))
 have S2:(w.alloc (.cells #[.int .i64 0] 3)).heap.size=w.heap.size+1:=by simp only[World.alloc,Array.size_push]
 have R2:=jH (Blk.new w [.int .i64 0] 3)
 have hfn: ∀(fn:Fn) (first cap:Array Value) (w:World),(Instr.makeFunc fn first cap).run Tryz.prog w= .ok (.func fn first cap) w:=fun _ _ _ _=>rfl
 have hnn:=tNum_none (h:=h) (l:=l) (kd:=kd)
 unfold ReadT at HV
 unfold TellT
 generalize tCode h l kd=cd at*
 generalize tNum h l kd=nn at*
 generalize taA (bodyL l (tOff h kd))=fa at*
 generalize taB (bodyL l (tOff h kd))=fb at*
 have HNN:=jH hnn
 clear v v2 H2 H3 hnn
 by_cases hz:cd=0
 ·subst hz
  go_enter_defers Tryz.func127,Tryz.ntmps127
  go_wp2_with(first
   |(go_at_call 128;(refine HV.out.mono ?_);rintro e w3 ⟨hb3,⟨hne,_⟩|⟨_,A2,c2',rfl,hi2⟩⟩;(exact absurd rfl hne);have B3:=jH (b2.out.trans (hb3.mono b2.out.size));have I3:=jH hi2;have R3:=jH (R2.out.below hb3 (by rw[S2];omega));have c4:=R3.out.cell (i:=0) rfl;have z4:=R3.out.frozen 0;clear hb3 hi2)
   |fail)
  refine leaves_cons (f:=181) (args:= #[.pointer (some ⟨w.heap.size,0,none⟩)]) (by simp) (by simp[go_sem]) ?_
  refine(caught_idle _ _).mono ?_
  rintro e u' w'' ⟨rfl,rfl,rfl⟩
  have b4:=B3.out.setCell (p:=⟨w.heap.size,0,none⟩) (jR _) (.int .i64 0)
  exact⟨.tuple #[.slice A2 nn c2',.int .i64 0],(by exact res_slot_cell Tryz.results127 _ _ w.heap.size _ _ rfl rfl (load_code _ _ _ (R3.out.set_ 0 _))),b4,A2,c2',rfl,in2_code I3.out R3.out _⟩
 ·have hn0:=HNN.out hz
  subst hn0
  go_enter_defers Tryz.func127,Tryz.ntmps127
  go_wp2_with(first
   |(go_at_call 128;(refine HV.out.mono ?_);rintro e w3 ⟨hb3,⟨_,rfl⟩|⟨he,_⟩⟩;rotate_left;(exact absurd he hz);have B3:=jH (b2.out.trans (hb3.mono b2.out.size));have R3:=jH (R2.out.below hb3 (by rw[S2];omega));clear hb3)
   |fail)
  refine leaves_cons (f:=181) (args:= #[.pointer (some ⟨w.heap.size,0,none⟩)]) (by simp) (by simp[go_sem]) ?_
  refine(caught_halt _ cd 0 [] _ R3.out).mono ?_
  rintro e u' w'' ⟨rfl,rfl,rfl⟩
  have b4:=B3.out.setCell (p:=⟨w.heap.size,0,none⟩) (jR _) (.int .i64 cd)
  exact⟨.tuple #[.slice none 0 0,.int .i64 cd],(by exact res_slot_cell Tryz.results127 _ _ w.heap.size _ _ rfl rfl (load_code _ _ _ (R3.out.set_ 0 _))),b4,none,0,rfl,fun i hi=>absurd hi (Nat.not_lt_zero i)⟩
theorem tabTell {gv:Nat}{h:HD}{A:Option Addr}{n c:Nat}{l:List Int}(kd:Int)(w:World)(v:ViewAt w gv h A n c l)(hcm:c≤maxLen):
 Calls Tryz.prog 71 #[.pointer (some ⟨gv,0,none⟩),.int .i64 kd] w (TellT h l kd w):=by
 have b1:=jH ((Below.refl w.heap.size w).alloc (jR _) (.cells #[.pointer (some ⟨gv,0,none⟩)] 27))
 have b2:=jH (b1.out.alloc b1.out.size (.cells #[.int .i64 kd] 3))
 have v2:=v.below b2.out
 have S1:(w.alloc (.cells #[.pointer (some ⟨gv,0,none⟩)] 27)).heap.size=w.heap.size+1:=by simp only[World.alloc,Array.size_push]
 have K1:=(Blk.new w [.pointer (some ⟨gv,0,none⟩)] 27).alloc (.cells #[.int .i64 kd] 3)
 have K2:=Blk.new_at (w.alloc (.cells #[.pointer (some ⟨gv,0,none⟩)] 27)) [.int .i64 kd] 3 _ S1
 have HV:=jH (asked_any kd w.heap.size (w.heap.size+1) _ v2 hcm K1 K2)
 have hfn: ∀(fn:Fn) (first cap:Array Value) (w:World),(Instr.makeFunc fn first cap).run Tryz.prog w= .ok (.func fn first cap) w:=fun _ _ _ _=>rfl
 unfold TellT at HV⊢
 generalize tCode h l kd=cd at*
 generalize tNum h l kd=nn at*
 generalize taA (bodyL l (tOff h kd))=fa at*
 generalize taB (bodyL l (tOff h kd))=fb at*
 clear v v2 K1 K2
 go_enter Tryz.func71,Tryz.ntmps71
 go_wp2_with(first
  |(go_at_call 127;(refine HV.out.mono ?_);rintro e w4 ⟨hb4,A2,c2',rfl,hi2⟩;have B4:=jH (b2.out.trans (hb4.mono b2.out.size));have I4:=jH hi2;clear hb4 hi2)
  |fail)
 go_ret2
 exact⟨B4.out,A2,c2',rfl,I4.out⟩
theorem rtabTell {gv:Nat}{h:HD}{d:Int}{A:Option Addr}{n c:Nat}{l:List Int}(kd:Int)(w:World)(v:ViewR w gv h d A n c l)(hk:kd=4∨kd=5):
 Calls Tryz.prog 75 #[.pointer (some ⟨gv,0,none⟩),.int .i64 kd] w (TellT h l kd w):=by
 have HTb:=jH fun(W:World) (hW:Below w.heap.size w W)=>rreadTable_any A l n c (tOff h kd) kd W (v.below hW).by_ v.len (by have:=v.big;omega) v.cap v.capm (tOff_is kd).2
 unfold TabTold at HTb
 have CC:=jH fun(W:World) (hW:Below w.heap.size w W)=>show W.cell? ⟨gv,69,none⟩=some (.int .u64 (h.N 2))∧W.cell? ⟨gv,70,none⟩=some (.int .u64 (h.N 3))∧W.cell? ⟨gv,71,none⟩=some (.int .u64 (h.N 4))∧W.cell? ⟨gv,72,none⟩=some (.int .u64 (h.N 5))∧W.cell? ⟨gv,91,none⟩=some (.slice A n c)from⟨(v.below hW).blk.cell (rview_N _ _ _ 2 (by decide)),(v.below hW).blk.cell (rview_N _ _ _ 3 (by decide)),(v.below hW).blk.cell (rview_N _ _ _ 4 (by decide)),(v.below hW).blk.cell (rview_N _ _ _ 5 (by decide)),(v.below hW).blk.cell (rview_b _ _ _)⟩
 have hwo:=(tOff_is (h:=h) kd).1
 obtain⟨hs0,hsz⟩:=tSz_is v.ok kd
 have hta:tAt h kd=if kd=4 then h.N 2 else h.N 4:=rfl
 have hcd:tCode h l kd=if tabC l (tOff h kd) kd≠0 then tabC l (tOff h kd) kd else if taNum l (tOff h kd) kd=tSz h kd/16 then 0 else 14:=if_pos hk
 have hnm:tNum h l kd=if tCode h l kd=0 then taNum l (tOff h kd) kd else 0:=rfl
 have hN9:taNum l (tOff h kd) kd≤1000000:=by
  unfold taNum
  have h1:(bodyL l (tOff h kd)).length≤l.length:=by unfold bodyL;rw[List.length_take,List.length_drop];omega
  have h2:=v.len
  have h3:=v.big
  split
  ·unfold taN;omega
  ·omega
 unfold TellT
 generalize tCode h l kd=cc at*
 generalize tNum h l kd=nn at*
 generalize taA (bodyL l (tOff h kd))=fa at*
 generalize taB (bodyL l (tOff h kd))=fb at*
 generalize taNum l (tOff h kd) kd=tn at*
 generalize tabC l (tOff h kd) kd=tc at*
 generalize tAt h kd=ta at*
 generalize tSz h kd=ts at*
 generalize tOff h kd=toff at*
 have HCD:=jH hcd
 have HNM:=jH hnm
 have D1:=jH (show Below w.heap.size w w.drew from(Below.refl w.heap.size w).drew)
 have D2:=jH D1.out.drew
 have hwn:IntKind.u64.wrap (tn:Int)=(tn:Int):=by rw[IntKind.wrap_u64];omega
 clear v hcd hnm
 obtain⟨k2,k3,k4,k5,_⟩:=CC.out _ D1.out
 go_enter Tryz.func75,Tryz.ntmps75
 go_upto_region 1 with fail
 go_cut [6,7]from 10 to 21 (fun x y wx=>x= .int .u64 (h.N 2)∧y= .int .u64 (h.N 3)∧Hid (Below w.heap.size w wx))
 case first=>
  go_region
  all_goals
   go_wp2_with fail
   go_meet
   case rel=>exact⟨rfl,rfl,D1⟩
 case rest=>
  rename World=>wA
  obtain⟨rfl,rfl,HA⟩:=hcut
  clear k2 k3 k4 k5
  rcases hk with rfl|rfl
  ·rw[if_pos rfl]at hta hs0
   rw[hs0]
   rw[hta]at hwo
   clear hta
   obtain⟨_,_,_,_,k91⟩:=CC.out _ HA.out
   by_cases hz:tc=0
   ·subst hz
    have hcd:=HCD.out
    rw[if_neg (by decide)]at hcd
    by_cases hq:tn=ts/16
    ·rw[if_pos hq]at hcd
     have hnm:=HNM.out
     rw[if_pos hcd]at hnm
     subst hcd
     subst hnm
     have dq:((nn:Int)!=(ts:Int)/16)=false:=by simp;omega
     go_wp2_with(first
      |(go_at_call 134;(refine(HTb.out _ HA.out).mono ?_);rintro e w2 ⟨A2,c2,rfl,hb2,hi2⟩;have B2:=jH (HA.out.trans (hb2.mono HA.out.size));have I2:=jH hi2;clear hb2 hi2)
      |fail)
     go_ret2
     exact⟨B2.out,A2,c2,by rw[hq];rfl,I2.out⟩
    ·rw[if_neg hq]at hcd
     have hnm:=HNM.out
     rw[if_neg (by rw[hcd];decide)]at hnm
     subst hcd
     subst hnm
     have dq:((tn:Int)!=(ts:Int)/16)=true:=by simp;omega
     go_wp2_with(first
      |(go_at_call 134;(refine(HTb.out _ HA.out).mono ?_);rintro e w2 ⟨A2,c2,rfl,hb2,hi2⟩;have B2:=jH (HA.out.trans (hb2.mono HA.out.size));clear hb2 hi2)
      |fail)
     go_ret2
     first|exact⟨B2.out,none,0,rfl,fun i hi=>absurd hi (Nat.not_lt_zero i)⟩|exact⟨B2.out,none,⟨0,rfl⟩,fun i hi=>absurd hi (Nat.not_lt_zero i)⟩
   ·have hcd:=HCD.out
    rw[if_pos hz]at hcd
    have hnm:=HNM.out
    rw[if_neg (by rw[hcd];exact hz)]at hnm
    subst hcd
    subst hnm
    have dz:(cc !=0)=true:=by simpa using hz
    go_wp2_with(first
     |(go_at_call 134;(refine(HTb.out _ HA.out).mono ?_);rintro e w2 ⟨A2,c2,rfl,hb2,hi2⟩;have B2:=jH (HA.out.trans (hb2.mono HA.out.size));clear hb2 hi2)
     |fail)
    go_ret2
    first|exact⟨B2.out,none,0,rfl,fun i hi=>absurd hi (Nat.not_lt_zero i)⟩|exact⟨B2.out,none,⟨0,rfl⟩,fun i hi=>absurd hi (Nat.not_lt_zero i)⟩
  ·rw[if_neg (by decide)]at hta hs0
   go_upto_region 3 with fail
   obtain⟨_,_,k4,k5,_⟩:=CC.out _ HA.out.drew
   have D3:=jH HA.out.drew
   go_cut [6,7]from 22 to 35 (fun x y wx=>x= .int .u64 (h.N 4)∧y= .int .u64 (ts:Int)∧Hid (Below w.heap.size w wx))
   case first=>
    go_region
    all_goals
     go_wp2_with fail
     go_meet
     case rel=>first|exact⟨rfl,rfl,D3⟩|exact⟨rfl,by rw[←hs0],D3⟩|exact⟨by rw[hta],by rw[←hs0],D3⟩
   case rest=>
    rename World=>wB
    obtain⟨rfl,rfl,HA⟩:=hcut
    clear k4 k5
    rw[hta]at hwo
    clear hta
    obtain⟨_,_,_,_,k91⟩:=CC.out _ HA.out
    by_cases hz:tc=0
    ·subst hz
     have hcd:=HCD.out
     rw[if_neg (by decide)]at hcd
     by_cases hq:tn=ts/16
     ·rw[if_pos hq]at hcd
      have hnm:=HNM.out
      rw[if_pos hcd]at hnm
      subst hcd
      subst hnm
      have dq:((nn:Int)!=(ts:Int)/16)=false:=by simp;omega
      go_wp2_with(first
       |(go_at_call 134;(refine(HTb.out _ HA.out).mono ?_);rintro e w2 ⟨A2,c2,rfl,hb2,hi2⟩;have B2:=jH (HA.out.trans (hb2.mono HA.out.size));have I2:=jH hi2;clear hb2 hi2)
       |fail)
      go_ret2
      exact⟨B2.out,A2,c2,by rw[hq];rfl,I2.out⟩
     ·rw[if_neg hq]at hcd
      have hnm:=HNM.out
      rw[if_neg (by rw[hcd];decide)]at hnm
      subst hcd
      subst hnm
      have dq:((tn:Int)!=(ts:Int)/16)=true:=by simp;omega
      go_wp2_with(first
       |(go_at_call 134;(refine(HTb.out _ HA.out).mono ?_);rintro e w2 ⟨A2,c2,rfl,hb2,hi2⟩;have B2:=jH (HA.out.trans (hb2.mono HA.out.size));clear hb2 hi2)
       |fail)
      go_ret2
      first|exact⟨B2.out,none,0,rfl,fun i hi=>absurd hi (Nat.not_lt_zero i)⟩|exact⟨B2.out,none,⟨0,rfl⟩,fun i hi=>absurd hi (Nat.not_lt_zero i)⟩
    ·have hcd:=HCD.out
     rw[if_pos hz]at hcd
     have hnm:=HNM.out
     rw[if_neg (by rw[hcd];exact hz)]at hnm
     subst hcd
     subst hnm
     have dz:(cc !=0)=true:=by simpa using hz
     go_wp2_with(first
      |(go_at_call 134;(refine(HTb.out _ HA.out).mono ?_);rintro e w2 ⟨A2,c2,rfl,hb2,hi2⟩;have B2:=jH (HA.out.trans (hb2.mono HA.out.size));clear hb2 hi2)
      |fail)
     go_ret2
     first|exact⟨B2.out,none,0,rfl,fun i hi=>absurd hi (Nat.not_lt_zero i)⟩|exact⟨B2.out,none,⟨0,rfl⟩,fun i hi=>absurd hi (Nat.not_lt_zero i)⟩
end Vh
namespace Wb
open Ga Gb
open Ye
open Ym (wordElt)
attribute [local irreducible] HD.cells wpList Code.wp
end Wb
namespace Wd
def its (g:Nat→Int):Nat→Nat→List (Int×Int)
 |0,_=>[]
 |m+1,i=>(g i,0)::its g m (i+1)
end Wd
namespace Wc
open Ga Gb
open Ye
open Rd (dcode)
open Ym (wordElt)
attribute [local irreducible] HD.cells wpList Code.wp
end Wc
end Go.Proofs.YtjecmgkmcfkcjaaGreat
