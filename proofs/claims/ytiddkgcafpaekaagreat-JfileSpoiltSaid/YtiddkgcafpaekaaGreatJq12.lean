/-
  Texts beneath the proof.
-/
import Derived.Test.YtiddkgcafpaekaaGreatJq11
set_option linter.unusedVariables false
set_option linter.unusedSimpArgs false
set_option maxRecDepth 100000
set_option maxHeartbeats 8000000
open Go.ChangeShapes Go.WideShapes Go.ChangeAt Go.RowKit
namespace Go.Proofs.YtiddkgcafpaekaaGreat
namespace Gt
open Bytes8 Blk8 Own8 OwnE Ob Od Ga Gb Gf Gi Gj Gl Gq
open Gm (flB stB fcode end_bd)
open Go1 (magicB hcode bytes_take)
theorem rzero_built:Tryz.prog.built 119 []=some (hd0.cells 20).toArray:=by kernel_rfl
theorem results_cell_tmp2 {fn:Func}{p u v:Tmp}{ty:TypeId}(h:fn.results= #[.cell p ty,.tmp u,.tmp v])(tmps:Array Value)(P:Program)(w:World):
 (results fn tmps).run P w=((asAddr (tmps.getD p undef)).run P w).andThen fun a w=>((loadVar ty a).run P w).andThen fun x w=> .ok (.tuple #[x,tmps.getD u undef,tmps.getD v undef]) w:=by
 simp[results,h]
theorem res_row3 {P:Program}{fn:Func}{p u v:Tmp}{ty:TypeId}(h:fn.results= #[.cell p ty,.tmp u,.tmp v])(tmps:Array Value)(w:World)(g:Nat)(t:TypeId)(cs:Array Value)(fr:Nat×Nat)(d:TypeDesc)(c e:Value)
 (hp:tmps.getD p undef= .pointer (some ⟨g,0,none⟩))(hc:tmps.getD u undef=c)(he:tmps.getD v undef=e)(hg:w.heap[g]? =some (.cells cs t fr))(hu:P.underlying ty=some d)(hd:(match d with| .struct _| .array _ _=>true|_=>false)=true)(hi:(P.info? ty).map (·.size)=some cs.size):
 (results fn tmps).run P w= .ok (.tuple #[.agg cs,c,e]) w:=by
 rw[results_cell_tmp2 h,hp,hc,he]
 simp[asAddr,run_loadVar_row w g t ty cs fr d hg hu hd hi,Result.andThen]
abbrev RTold (h:HD)(dp c:Int)(w:World)(e:Ending)(w':World):Prop:=e= .returned (.tuple #[.agg (h.cells 20).toArray,.int .u64 dp,.int .i64 c])∧Below w.heap.size w w'
attribute [local irreducible] HD.cells wpList Code.wp
theorem rread_short (A:Option Addr)(n c:Nat)(w:World)(hn:n<272):
 Calls Tryz.prog 110 #[.slice A n c] w (RTold hd0 0 22 w):=by
 have d1:(n:Int)<272:=by omega
 go_enter Tryz.func110,Tryz.ntmps110
 go_upto_region 1 with fail
 have b1:=yH ((Below.refl w.heap.size w).alloc (yR _) (.cells Tryz.zeroCells119 119))
 have Z1:=yH (heap_alloc_new w (.cells Tryz.zeroCells119 119))
 have S1:=yH (show(w.alloc (.cells Tryz.zeroCells119 119)).heap.size=w.heap.size+1 by simp)
 generalize w.alloc (.cells Tryz.zeroCells119 119)=w1 at*
 go_wp2_with(first
  |((with_reducible apply at_slot 13);refine wpList_build_zero rfl 119 rfl _ rzero_built ?_)
  |((with_reducible apply at_store (.tmp 2) (.tmp 13));refine wpList_store_row rfl 119 (.tmp 2) (.tmp 13) rfl w.heap.size (hd0.cells 20).toArray rfl rfl 119 Tryz.zeroCells119 Z1.out (rcells_info _) rzeros_size (HD.one _ 20) ?_)
  |fail)
 refine bodyPost_ret (v:= .tuple #[.agg (hd0.cells 20).toArray,.int .u64 0,.int .i64 22]) (by exact res_row3 Tryz.results110 _ _ w.heap.size 119 _ (0,0) _ _ _ rfl rfl rfl (setRow_heap _ _ _ _ _ (0,0) Z1.out) Tryz.underlying119 rfl (rcells_info _)) rfl ?_
 exact⟨rfl,below_setRow b1.out (yR _) _⟩
theorem rread_magic (A:Option Addr)(l:List Int)(n c:Nat)(w:World)(hb:Bytes w A l)(hL:l.length=n)(h272:272≤n)(hc:n≤c)(hm:magicB l=false):
 Calls Tryz.prog 110 #[.slice A n c] w (RTold hd0 0 6 w):=by
 have d1: ¬(n:Int)<272:=by omega
 go_enter Tryz.func110,Tryz.ntmps110
 go_upto_region 1 with fail
 have b1:=yH ((Below.refl w.heap.size w).alloc (yR _) (.cells Tryz.zeroCells119 119))
 have Z1:=yH (heap_alloc_new w (.cells Tryz.zeroCells119 119))
 have S1:=yH (show(w.alloc (.cells Tryz.zeroCells119 119)).heap.size=w.heap.size+1 by simp)
 generalize w.alloc (.cells Tryz.zeroCells119 119)=w1 at*
 have h8:(l.take 8).length=8:=by simp;omega
 have HB1:=yH (hb.below b1.out (yR _))
 have hst:=(bytes_take HB1.out 8).string c 8 h8
 have hS:(!(strOfNums (l.take 8)).toList== [76,80,75,83,72,72,82,72])=true:=by unfold magicB at hm;rw[hm];rfl
 generalize strOfNums (l.take 8)=S at*
 have hcc:(8:Int)≤(c:Int):=by omega
 go_wp2_with(first
  |((with_reducible apply at_slot 18);refine wpList_build_zero rfl 119 rfl _ rzero_built ?_)
  |((with_reducible apply at_store (.tmp 2) (.tmp 18));refine wpList_store_row rfl 119 (.tmp 2) (.tmp 18) rfl w.heap.size (hd0.cells 20).toArray rfl rfl 119 Tryz.zeroCells119 Z1.out (rcells_info _) rzeros_size (HD.one _ 20) ?_)
  |fail)
 refine bodyPost_ret (v:= .tuple #[.agg (hd0.cells 20).toArray,.int .u64 0,.int .i64 6]) (by exact res_row3 Tryz.results110 _ _ w.heap.size 119 _ (0,0) _ _ _ rfl rfl rfl (setRow_heap _ _ _ _ _ (0,0) Z1.out) Tryz.underlying119 rfl (rcells_info _)) rfl ?_
 exact⟨rfl,below_setRow b1.out (yR _) _⟩
theorem rread_taken (A:Option Addr)(l:List Int)(n c:Nat)(w:World)(hb:Bytes w A l)(hL:l.length=n)(h272:272≤n)(hn:n≤1000000)(hc:n≤c)(hm:magicB l=true):
 Calls Tryz.prog 110 #[.slice A n c] w (RTold (if fcode (hdOf l) n=0 then hdOf l else hd0) (if fcode (hdOf l) n=0 then Ob.u8 l 248 else 0) (fcode (hdOf l) n) w):=by
 have d1: ¬(n:Int)<272:=by omega
 have HT:=yH fun(W:World) (hW:Bytes W A l)=>raw_any A l n c W hW hL h272 hn
 have ok:=hdOf_ok hb.1 20
 have ok21:=hdOf_ok hb.1 21
 have HE:=yH fun(W:World)=>rend_any (hdOf l) ok W
 have hst0:=hb.1.at_ 16
 have hstv:(hdOf l).st=l.getD 16 0:=rfl
 rw[←hstv]at hst0
 clear hstv
 generalize Ob.u8 l 248=dp at*
 go_enter Tryz.func110,Tryz.ntmps110
 go_upto_region 1 with fail
 have b1:=yH ((Below.refl w.heap.size w).alloc (yR _) (.cells Tryz.zeroCells119 119))
 have Z1:=yH (heap_alloc_new w (.cells Tryz.zeroCells119 119))
 have S1:=yH (show(w.alloc (.cells Tryz.zeroCells119 119)).heap.size=w.heap.size+1 by simp)
 generalize w.alloc (.cells Tryz.zeroCells119 119)=w1 at*
 have h8:(l.take 8).length=8:=by simp;omega
 have HB1:=yH (hb.below b1.out (yR _))
 have hst:=(bytes_take HB1.out 8).string c 8 h8
 have hS:(!(strOfNums (l.take 8)).toList== [76,80,75,83,72,72,82,72])=false:=by unfold magicB at hm;rw[hm];rfl
 generalize strOfNums (l.take 8)=S at*
 have hcc:(8:Int)≤(c:Int):=by omega
 clear h8 hm
 go_upto_region 6 with(first
  |(go_at_call 165;((with_reducible refine(HT.out _ HB1.out).mono ?_);rintro e w2 ⟨rfl,hb2⟩;have B2:=yH hb2;clear hb2))
  |((with_reducible apply at_store (.tmp 5) (.tmp 22));refine wpList_store_row rfl 119 (.tmp 5) (.tmp 22) rfl w2.heap.size ((hdOf l).cells 20).toArray rfl rfl 119 Tryz.zeroCells119 (heap_alloc_new w2 _) (rcells_info _) rzeros_size (HD.one _ 20) ?_)
  |fail)
 have R3:=yH (show Blk ((w2.alloc (.cells Tryz.zeroCells119 119)).setRow w2.heap.size ((hdOf l).cells 20).toArray) w2.heap.size ((hdOf l).cells 20) 119 from setRow_heap _ _ _ _ _ (0,0) (heap_alloc_new w2 _))
 have B3:=yH (show Below w1.heap.size w1 ((w2.alloc (.cells Tryz.zeroCells119 119)).setRow w2.heap.size ((hdOf l).cells 20).toArray)from below_setRow (B2.out.alloc B2.out.size _) B2.out.size _)
 generalize (w2.alloc (.cells Tryz.zeroCells119 119)).setRow w2.heap.size ((hdOf l).cells 20).toArray=w3 at*
 clear hst hS hb HB1 HT
 go_upto_region 7 with(first
  |((with_reducible apply at_slot 25);refine wpList_load_row rfl 119 (.tmp 5) rfl w2.heap.size rfl 119 ((hdOf l).cells 20).toArray (0,0) _ R3.out Tryz.underlying119 rfl (rcells_info _) ?_)
  |(go_at_call 111;((with_reducible refine(HE.out _).mono ?_);rintro e w4 ⟨rfl,hb4⟩;have R4:=yH (R3.out.below hb4 R3.out.lt);have B4:=yH (B3.out.trans (hb4.mono B3.out.size));clear hb4))
  |fail)
 have Z4:=yH ((B4.out.block w.heap.size (by rw[S1.out];exact Nat.lt_succ_self _)).trans Z1.out)
 have Bz:=yH (b1.out.trans (B4.out.mono (by rw[S1.out];exact Nat.le_succ _)))
 have c1:w4.cell? ⟨w2.heap.size,1,none⟩=some (.int .u32 (hdOf l).ic):=R4.out.cell ((hdOf l).get 20 1 (by decide))
 have c2:w4.cell? ⟨w2.heap.size,2,none⟩=some (.int .i64 (hdOf l).st):=R4.out.cell ((hdOf l).get 20 2 (by decide))
 have c67:=HD.nums_at R4.out 0 (by decide)
 have c68:=HD.nums_at R4.out 1 (by decide)
 have c69:=HD.nums_at R4.out 2 (by decide)
 have c70:=HD.nums_at R4.out 3 (by decide)
 have c71:=HD.nums_at R4.out 4 (by decide)
 have c72:=HD.nums_at R4.out 5 (by decide)
 have hic:=ok.ic
 obtain⟨p0,p1⟩:=ok.N 0
 obtain⟨r0,r1⟩:=ok.N 1
 have HFC:fcode (hdOf l) n=if flB (hdOf l).ic=true then 7 else if stB (hdOf l).st=false then 8 else if(hdOf l).N 0<272∨(hdOf l).N 0%8≠0∨(hdOf l).N 1%8≠0 then 5 else if endB (hdOf l)=false∨(n:Int)<endV (hdOf l)then 2 else if tcode ((hdOf l).N 2) ((hdOf l).N 3) ((hdOf l).N 0) (endV (hdOf l))≠0 then tcode ((hdOf l).N 2) ((hdOf l).N 3) ((hdOf l).N 0) (endV (hdOf l))else tcode ((hdOf l).N 4) ((hdOf l).N 5) ((hdOf l).N 0) (endV (hdOf l)):=rfl
 have HVb:=yH (end_bd (hdOf l) ok21)
 have HVe:endB (hdOf l)=true→endV (hdOf l)=(hdOf l).N 0+(hdOf l).N 1:=fun h=>if_pos (of_decide_eq_true h)
 have HT1:=yH (rtable_any ((hdOf l).N 0) (endV (hdOf l)) ((hdOf l).N 2) ((hdOf l).N 3) (ok.N 0) (end_bd _ ok21) (ok.N 2) (ok.N 3) w4)
 have HT2:=yH (rtable_any ((hdOf l).N 0) (endV (hdOf l)) ((hdOf l).N 4) ((hdOf l).N 5) (ok.N 0) (end_bd _ ok21) (ok.N 4) (ok.N 5) w4)
 clear HE ok ok21 R3 B3 B2 d1
 have hfin0: ∀x:Int,fcode (hdOf l) n=x→Hid (fcode (hdOf l) n=x):=fun x hx=>yH hx
 generalize fcode (hdOf l) n=FC at*
 have base: ∀cd:Int,FC=cd→cd≠0→Hid (FC=cd):=fun cd h _=>yH h
 by_cases h1:flB (hdOf l).ic=true
 ·rw[if_pos h1]at HFC
  subst HFC
  have h1':(bits BinOp.andNot IntKind.u32 (hdOf l).ic 4 !=0)=true:=h1
  clear hfin0 base h1
  rw[if_neg (by decide),if_neg (by decide)]
  go_wp2_with(first
   |((with_reducible apply at_slot 93);refine wpList_build_zero rfl 119 rfl _ rzero_built ?_)
   |((with_reducible apply at_store (.tmp 2) (.tmp 93));refine wpList_store_row rfl 119 (.tmp 2) (.tmp 93) rfl w.heap.size (hd0.cells 20).toArray rfl rfl 119 Tryz.zeroCells119 Z4.out (rcells_info _) rzeros_size (HD.one _ 20) ?_)
   |fail)
  refine bodyPost_ret (v:= .tuple #[.agg (hd0.cells 20).toArray,.int .u64 0,.int .i64 7]) (by exact res_row3 Tryz.results110 _ _ w.heap.size 119 _ (0,0) _ _ _ rfl rfl rfl (setRow_heap _ _ _ _ _ (0,0) Z4.out) Tryz.underlying119 rfl (rcells_info _)) rfl ?_
  exact⟨rfl,below_setRow Bz.out (yR _) _⟩
 rw[if_neg h1]at HFC
 have h1':(bits BinOp.andNot IntKind.u32 (hdOf l).ic 4 !=0)=false:=by have h1x:flB (hdOf l).ic=false:=by simpa using h1
                                                                      exact h1x
 clear h1
 by_cases h2:stB (hdOf l).st=false
 ·rw[if_pos h2]at HFC
  subst HFC
  have h2':2<(hdOf l).st:=by unfold stB at h2;simp at h2;omega
  have d2:decide (2<(hdOf l).st)=true:=by simp;omega
  clear hfin0 base h2
  rw[if_neg (by decide),if_neg (by decide)]
  go_wp2_with(first
   |((with_reducible apply at_slot 93);refine wpList_build_zero rfl 119 rfl _ rzero_built ?_)
   |((with_reducible apply at_store (.tmp 2) (.tmp 93));refine wpList_store_row rfl 119 (.tmp 2) (.tmp 93) rfl w.heap.size (hd0.cells 20).toArray rfl rfl 119 Tryz.zeroCells119 Z4.out (rcells_info _) rzeros_size (HD.one _ 20) ?_)
   |fail)
  refine bodyPost_ret (v:= .tuple #[.agg (hd0.cells 20).toArray,.int .u64 0,.int .i64 8]) (by exact res_row3 Tryz.results110 _ _ w.heap.size 119 _ (0,0) _ _ _ rfl rfl rfl (setRow_heap _ _ _ _ _ (0,0) Z4.out) Tryz.underlying119 rfl (rcells_info _)) rfl ?_
  exact⟨rfl,below_setRow Bz.out (yR _) _⟩
 rw[if_neg h2]at HFC
 have h2': ¬2<(hdOf l).st:=by unfold stB at h2;simp at h2;omega
 have d2:decide (2<(hdOf l).st)=false:=by simp;omega
 clear h2
 by_cases h3:(hdOf l).N 0<272∨(hdOf l).N 0%8≠0∨(hdOf l).N 1%8≠0
 ·rw[if_pos h3]at HFC
  subst HFC
  clear hfin0 base
  rw[if_neg (by decide),if_neg (by decide)]
  by_cases h4:(hdOf l).N 0<272
  ·have d4:decide ((hdOf l).N 0<272)=true:=by simp;omega
   clear h3
   go_wp2_with(first
    |((with_reducible apply at_slot 93);refine wpList_build_zero rfl 119 rfl _ rzero_built ?_)
    |((with_reducible apply at_store (.tmp 2) (.tmp 93));refine wpList_store_row rfl 119 (.tmp 2) (.tmp 93) rfl w.heap.size (hd0.cells 20).toArray rfl rfl 119 Tryz.zeroCells119 Z4.out (rcells_info _) rzeros_size (HD.one _ 20) ?_)
    |fail)
   refine bodyPost_ret (v:= .tuple #[.agg (hd0.cells 20).toArray,.int .u64 0,.int .i64 5]) (by exact res_row3 Tryz.results110 _ _ w.heap.size 119 _ (0,0) _ _ _ rfl rfl rfl (setRow_heap _ _ _ _ _ (0,0) Z4.out) Tryz.underlying119 rfl (rcells_info _)) rfl ?_
   exact⟨rfl,below_setRow Bz.out (yR _) _⟩
  have d4:decide ((hdOf l).N 0<272)=false:=by simp;omega
  by_cases h5:(hdOf l).N 0%8=0
  ·have h6: ¬(hdOf l).N 1%8=0:=by omega
   clear h3
   go_wp2_with(first
    |((with_reducible apply at_slot 93);refine wpList_build_zero rfl 119 rfl _ rzero_built ?_)
    |((with_reducible apply at_store (.tmp 2) (.tmp 93));refine wpList_store_row rfl 119 (.tmp 2) (.tmp 93) rfl w.heap.size (hd0.cells 20).toArray rfl rfl 119 Tryz.zeroCells119 Z4.out (rcells_info _) rzeros_size (HD.one _ 20) ?_)
    |fail)
   refine bodyPost_ret (v:= .tuple #[.agg (hd0.cells 20).toArray,.int .u64 0,.int .i64 5]) (by exact res_row3 Tryz.results110 _ _ w.heap.size 119 _ (0,0) _ _ _ rfl rfl rfl (setRow_heap _ _ _ _ _ (0,0) Z4.out) Tryz.underlying119 rfl (rcells_info _)) rfl ?_
   exact⟨rfl,below_setRow Bz.out (yR _) _⟩
  ·clear h3
   go_wp2_with(first
    |((with_reducible apply at_slot 93);refine wpList_build_zero rfl 119 rfl _ rzero_built ?_)
    |((with_reducible apply at_store (.tmp 2) (.tmp 93));refine wpList_store_row rfl 119 (.tmp 2) (.tmp 93) rfl w.heap.size (hd0.cells 20).toArray rfl rfl 119 Tryz.zeroCells119 Z4.out (rcells_info _) rzeros_size (HD.one _ 20) ?_)
    |fail)
   refine bodyPost_ret (v:= .tuple #[.agg (hd0.cells 20).toArray,.int .u64 0,.int .i64 5]) (by exact res_row3 Tryz.results110 _ _ w.heap.size 119 _ (0,0) _ _ _ rfl rfl rfl (setRow_heap _ _ _ _ _ (0,0) Z4.out) Tryz.underlying119 rfl (rcells_info _)) rfl ?_
   exact⟨rfl,below_setRow Bz.out (yR _) _⟩
 rw[if_neg h3]at HFC
 have d4:decide ((hdOf l).N 0<272)=false:=by simp;omega
 have h5:(hdOf l).N 0%8=0:=by omega
 have h6:(hdOf l).N 1%8=0:=by omega
 clear h3
 by_cases h7:endB (hdOf l)=false∨(n:Int)<endV (hdOf l)
 ·rw[if_pos h7]at HFC
  subst HFC
  clear hfin0 base
  rw[if_neg (by decide),if_neg (by decide)]
  cases hE:endB (hdOf l)with
  |false=>
   clear h7
   go_wp2_with(first
    |((with_reducible apply at_slot 93);refine wpList_build_zero rfl 119 rfl _ rzero_built ?_)
    |((with_reducible apply at_store (.tmp 2) (.tmp 93));refine wpList_store_row rfl 119 (.tmp 2) (.tmp 93) rfl w.heap.size (hd0.cells 20).toArray rfl rfl 119 Tryz.zeroCells119 Z4.out (rcells_info _) rzeros_size (HD.one _ 20) ?_)
    |fail)
   refine bodyPost_ret (v:= .tuple #[.agg (hd0.cells 20).toArray,.int .u64 0,.int .i64 2]) (by exact res_row3 Tryz.results110 _ _ w.heap.size 119 _ (0,0) _ _ _ rfl rfl rfl (setRow_heap _ _ _ _ _ (0,0) Z4.out) Tryz.underlying119 rfl (rcells_info _)) rfl ?_
   exact⟨rfl,below_setRow Bz.out (yR _) _⟩
  |true=>
   have h8:(n:Int)<endV (hdOf l):=by rcases h7 with h7|h7;rw[hE]at h7;cases h7;exact h7
   clear h7 HVe
   generalize endV (hdOf l)=V at*
   have hVb:=HVb.out
   have d8:decide ((n:Int)<V)=true:=by simp;omega
   go_wp2_with(first
    |((with_reducible apply at_slot 93);refine wpList_build_zero rfl 119 rfl _ rzero_built ?_)
    |((with_reducible apply at_store (.tmp 2) (.tmp 93));refine wpList_store_row rfl 119 (.tmp 2) (.tmp 93) rfl w.heap.size (hd0.cells 20).toArray rfl rfl 119 Tryz.zeroCells119 Z4.out (rcells_info _) rzeros_size (HD.one _ 20) ?_)
    |fail)
   refine bodyPost_ret (v:= .tuple #[.agg (hd0.cells 20).toArray,.int .u64 0,.int .i64 2]) (by exact res_row3 Tryz.results110 _ _ w.heap.size 119 _ (0,0) _ _ _ rfl rfl rfl (setRow_heap _ _ _ _ _ (0,0) Z4.out) Tryz.underlying119 rfl (rcells_info _)) rfl ?_
   exact⟨rfl,below_setRow Bz.out (yR _) _⟩
 rw[if_neg h7]at HFC
 have hE:endB (hdOf l)=true:=by
  cases hE:endB (hdOf l)with
  |true=>rfl
  |false=>exact absurd (Or.inl hE) h7
 have h8: ¬(n:Int)<endV (hdOf l):=fun h=>h7 (Or.inr h)
 clear h7 HVe
 generalize endV (hdOf l)=V at*
 have hVb:=HVb.out
 have d8:decide ((n:Int)<V)=false:=by simp;omega
 generalize tcode ((hdOf l).N 2) ((hdOf l).N 3) ((hdOf l).N 0) V=t1 at*
 generalize tcode ((hdOf l).N 4) ((hdOf l).N 5) ((hdOf l).N 0) V=t2 at*
 have tarms:=True.intro
 by_cases ht:t1=0
 ·rw[if_neg (by simpa using ht)]at HFC
  subst HFC ht
  clear hfin0 base
  by_cases hz:FC=0
  ·rw[if_pos hz,if_pos hz]
   subst hz
   go_wp2_with(first
    |(go_at_call 166;((with_reducible refine HT1.out.mono ?_);rintro e w' ⟨rfl,rfl⟩))
    |(go_at_call 166;((with_reducible refine HT2.out.mono ?_);rintro e w' ⟨rfl,rfl⟩))
    |((with_reducible apply at_slot 95);refine wpList_load_row rfl 119 (.tmp 5) rfl w2.heap.size rfl 119 ((hdOf l).cells 20).toArray (0,0) _ R4.out Tryz.underlying119 rfl (rcells_info _) ?_)
    |((with_reducible apply at_store (.tmp 2) (.tmp 95));refine wpList_store_row rfl 119 (.tmp 2) (.tmp 95) rfl w.heap.size ((hdOf l).cells 20).toArray rfl rfl 119 Tryz.zeroCells119 Z4.out (rcells_info _) rzeros_size (HD.one _ 20) ?_)
    |fail)
   refine bodyPost_ret (v:= .tuple #[.agg ((hdOf l).cells 20).toArray,.int .u64 dp,.int .i64 0]) (by exact res_row3 Tryz.results110 _ _ w.heap.size 119 _ (0,0) _ _ _ rfl rfl rfl (setRow_heap _ _ _ _ _ (0,0) Z4.out) Tryz.underlying119 rfl (rcells_info _)) rfl ?_
   exact⟨rfl,below_setRow Bz.out (yR _) _⟩
  ·rw[if_neg hz,if_neg hz]
   have dz:(FC !=0)=true:=by simp[hz]
   go_wp2_with(first
    |(go_at_call 166;((with_reducible refine HT1.out.mono ?_);rintro e w' ⟨rfl,rfl⟩))
    |(go_at_call 166;((with_reducible refine HT2.out.mono ?_);rintro e w' ⟨rfl,rfl⟩))
    |((with_reducible apply at_slot 93);refine wpList_build_zero rfl 119 rfl _ rzero_built ?_)
    |((with_reducible apply at_store (.tmp 2) (.tmp 93));refine wpList_store_row rfl 119 (.tmp 2) (.tmp 93) rfl w.heap.size (hd0.cells 20).toArray rfl rfl 119 Tryz.zeroCells119 Z4.out (rcells_info _) rzeros_size (HD.one _ 20) ?_)
    |fail)
   refine bodyPost_ret (v:= .tuple #[.agg (hd0.cells 20).toArray,.int .u64 0,.int .i64 FC]) (by exact res_row3 Tryz.results110 _ _ w.heap.size 119 _ (0,0) _ _ _ rfl rfl rfl (setRow_heap _ _ _ _ _ (0,0) Z4.out) Tryz.underlying119 rfl (rcells_info _)) rfl ?_
   exact⟨rfl,below_setRow Bz.out (yR _) _⟩
 ·rw[if_pos ht]at HFC
  subst HFC
  clear hfin0 base
  rw[if_neg ht,if_neg ht]
  have dz:(FC !=0)=true:=by simp[ht]
  have dz2:(FC==0)=false:=by simp[ht]
  go_wp2_with(first
   |(go_at_call 166;((with_reducible refine HT1.out.mono ?_);rintro e w' ⟨rfl,rfl⟩))
   |((with_reducible apply at_slot 93);refine wpList_build_zero rfl 119 rfl _ rzero_built ?_)
   |((with_reducible apply at_store (.tmp 2) (.tmp 93));refine wpList_store_row rfl 119 (.tmp 2) (.tmp 93) rfl w.heap.size (hd0.cells 20).toArray rfl rfl 119 Tryz.zeroCells119 Z4.out (rcells_info _) rzeros_size (HD.one _ 20) ?_)
   |fail)
  refine bodyPost_ret (v:= .tuple #[.agg (hd0.cells 20).toArray,.int .u64 0,.int .i64 FC]) (by exact res_row3 Tryz.results110 _ _ w.heap.size 119 _ (0,0) _ _ _ rfl rfl rfl (setRow_heap _ _ _ _ _ (0,0) Z4.out) Tryz.underlying119 rfl (rcells_info _)) rfl ?_
  exact⟨rfl,below_setRow Bz.out (yR _) _⟩
theorem rreadHead_any (A:Option Addr)(l:List Int)(n c:Nat)(w:World)(hb:Bytes w A l)(hL:l.length=n)(hn:n≤1000000)(hc:n≤c):
 Calls Tryz.prog 110 #[.slice A n c] w (RTold (if hcode l n=0 then hdOf l else hd0) (if hcode l n=0 then Ob.u8 l 248 else 0) (hcode l n) w):=by
 by_cases h1:n<272
 ·rw[show hcode l n=22 from if_pos h1,if_neg (by decide),if_neg (by decide)]
  exact rread_short A n c w h1
 by_cases h2:magicB l=false
 ·rw[show hcode l n=6 by unfold hcode;rw[if_neg h1,if_pos h2],if_neg (by decide),if_neg (by decide)]
  exact rread_magic A l n c w hb hL (by omega) hc h2
 ·have h2':magicB l=true:=by simpa using h2
  rw[show hcode l n=fcode (hdOf l) n by unfold hcode;rw[if_neg h1,if_neg h2]]
  exact rread_taken A l n c w hb hL (by omega) hn hc h2'
end Gt
namespace Yd
open Bytes8 Blk8 Own8 OwnE Ob Kf Yc
abbrev entV (s r m:Int)(K:Nat→Int)(x:Int)(A:Option Addr)(n c:Nat):Value:= .agg #[.int .u64 s,.int .u64 r,.int .u64 m,.int .u8 (K 0),.int .u8 (K 1),.int .u8 (K 2),.int .u8 (K 3),.int .u8 (K 4),.int .u8 (K 5),.int .u8 (K 6),.int .u8 (K 7),.int .u8 (K 8),.int .u8 (K 9),.int .u8 (K 10),.int .u8 (K 11),.int .u8 (K 12),.int .u8 (K 13),.int .u8 (K 14),.int .u8 (K 15),.int .u64 x,.slice A n c]
abbrev entC (T:TypeId)(s r m:Int)(K:Nat→Int)(x:Int)(A:Option Addr)(n c:Nat):Obj:= .cells #[.int .u64 s,.int .u64 r,.int .u64 m,.int .u8 (K 0),.int .u8 (K 1),.int .u8 (K 2),.int .u8 (K 3),.int .u8 (K 4),.int .u8 (K 5),.int .u8 (K 6),.int .u8 (K 7),.int .u8 (K 8),.int .u8 (K 9),.int .u8 (K 10),.int .u8 (K 11),.int .u8 (K 12),.int .u8 (K 13),.int .u8 (K 14),.int .u8 (K 15),.int .u64 x,.slice A n c] T
def entL (s r m:Int)(K:Nat→Int)(x:Int)(A:Option Addr)(n c:Nat):List Value:=[.int .u64 s,.int .u64 r,.int .u64 m,.int .u8 (K 0),.int .u8 (K 1),.int .u8 (K 2),.int .u8 (K 3),.int .u8 (K 4),.int .u8 (K 5),.int .u8 (K 6),.int .u8 (K 7),.int .u8 (K 8),.int .u8 (K 9),.int .u8 (K 10),.int .u8 (K 11),.int .u8 (K 12),.int .u8 (K 13),.int .u8 (K 14),.int .u8 (K 15),.int .u64 x,.slice A n c]
theorem ent_id {w:World}{g:Nat}{T:TypeId}{s r m x:Int}{K:Nat→Int}{A:Option Addr}{n c:Nat}(h:Blk w g (entL s r m K x A n c) T)(hK:IdOk K):Bytes w (some ⟨g,3,none⟩) (idL K):=by
 refine⟨idL_all hK,fun i hi=>⟨g,3,rfl,h.lt,?_⟩⟩
 have h16:i<16:=hi
 refine h.cell ?_
 unfold entL idL
 rcases i with _|_|_|_|_|_|_|_|_|_|_|_|_|_|_|_|i
 all_goals first|rfl|omega
def entB (s r m:Int)(K:Nat→Int)(x:Int)(ps:List Int):List Int:=nums [s,r,m]++idL K++nums [x]++nums ps
theorem entB_len (s r m:Int)(K:Nat→Int)(x:Int)(f g:Nat→Int)(k:Nat):(entB s r m K x (prs f g k)).length=48+16*k:=by
 unfold entB
 rw[List.length_append,List.length_append,List.length_append,nums_prs_len,nums_len,nums_len]
 rfl
abbrev arrV (x:Int)(A:Option Addr)(n c:Nat):Value:= .agg #[.int .u64 x,.slice A n c]
abbrev arrC (T:TypeId)(x:Int)(A:Option Addr)(n c:Nat):Obj:= .cells #[.int .u64 x,.slice A n c] T
def arrB (x:Int)(l:List Int):List Int:=nums [x]++nums l
abbrev InsideA (b:Nat)(W:World)(x:Int)(A:Option Addr)(n c:Nat):Prop:=W.cell? ⟨b,0,none⟩=some (.int .u64 x)∧W.cell? ⟨b,1,none⟩=some (.slice A n c)
end Yd
namespace Yk
open Bytes8 Blk8 Own8 OwnE Ob Oc Od Oe Rows2 Kf Yc Yd
def NumsTold (ls:List Int)(z:Nat)(W:World)(e:Ending)(w':World):Prop:= ∃A c,e= .returned (.slice A z c)∧Own w' W.heap.size A z c (nums ls)∧Below W.heap.size W w'
theorem rnums_lit (ls:List Int)(k z:Nat)(N:Array Value)(hN:(ls.map (Value.int .u64)).toArray=N)(W:World)(g:Nat)(hg:W.heap.size=g)(hv:I64 ls)(hk:ls.length=k)(hkm:k≤1000)(hz:8*k=z):
 Calls Tryz.prog 139 #[.slice (some ⟨g,0,none⟩) k k] (W.alloc (.cells N 27)) (NumsTold ls z W):=by
 subst hN hg hz
 have h:=rnums_any W.heap.size k k ls 27 _ (Blk.new W _ _) hv hk hkm
 exact h.mono fun e w' ⟨A,c,h1,h2,h3⟩=>⟨A,c,h1,Own.base h2 (by simp),((Below.refl W.heap.size W).alloc (yR _) _).trans (h3.mono (by simp))⟩
theorem rnums_litd (ls:List Int)(k z:Nat)(N:Array Value)(hN:(ls.map (Value.int .u64)).toArray=N)(W:World)(g:Nat)(hg:W.heap.size=g)(hv:I64 ls)(hk:ls.length=k)(hkm:k≤1000)(hz:8*k=z):
 Calls Tryz.prog 139 #[.slice (some ⟨g,0,none⟩) k k] (W.alloc (.cells N 27)).drew (NumsTold ls z W):=
 (rnums_lit ls k z N hN W.drew g hg hv hk hkm hz).mono fun e w' ⟨A,c,h1,h2,h3⟩=>⟨A,c,h1,h2,(Below.refl W.heap.size W).drew.trans h3⟩
theorem I64_one {x:Int}(h:0≤x∧x≤18446744073709551615):I64 [x]:=by intro v hv;simp at hv;subst hv;exact h
theorem I64_two {x y:Int}(h:0≤x∧x≤18446744073709551615)(h2:0≤y∧y≤18446744073709551615):I64 [x,y]:=by intro v hv;simp at hv;rcases hv with rfl|rfl<;>assumption
theorem rputArray_any (x:Int)(A:Option Addr)(n c:Nat)(f:Nat→Int)(w:World)(hi:InInts .u64 w A n f)(hn:n≤50000)(hx:0≤x∧x≤18446744073709551615):
 Calls Tryz.prog 154 #[arrV x A n c] w (Owned (objB 6 (arrB x (ints f n))) (16+(8+8*n)+padN (8+8*n)) w):=by
 have HI:=yH hi
 have b0:=yH ((Below.refl w.heap.size w).alloc (yR _) (arrC 221 x A n c))
 have R0:=yH (show Blk (w.alloc (arrC 221 x A n c)) w.heap.size [.int .u64 x,.slice A n c] 221 from Blk.new w _ _)
 have i0:=R0.out.drew.cell (i:=0) rfl
 have i1:=R0.out.drew.cell (i:=1) rfl
 have PB:=yH (R0.out.alloc (.cells #[.int .u64 x] 27)).drew
 have pb0:=PB.out.cell (i:=0) rfl
 have pb1:=PB.out.cell (i:=1) rfl
 have HN:=yH fun(W:World) (g:Nat) (hg:W.heap.size=g)=>rnums_litd [x] 1 8 _ rfl W g hg (I64_one hx) rfl (by decide) rfl
 dsimp only[List.map]at HN
 have HN2:=yH fun(W:World) (hb:Below w.heap.size w W)=>rnums_in A n c f W (HI.out.below hb) (by omega)
 have HP:=yH fun(B:Option Addr) (cb:Nat) (W:World) (base:Nat) (ho:Own W base B (8+8*n) cb (nums [x]++nums (ints f n)))=>rput_yes 6 B _ (8+8*n) cb W (by decide) ho.bytes ho.2.1 (by omega)
 unfold Owned at HP
 unfold NumsTold at HN
 unfold arrB
 generalize padN (8+8*n)=pn at*
 clear hi
 go_enter Tryz.func154,Tryz.ntmps154
 go_wp2
 go_region_held3 (fun W=>InsideA w.heap.size W x A n c) (first|(with_reducible exact⟨i0,i1⟩)|(with_reducible exact⟨pb0,pb1⟩)|(with_reducible exact⟨q0,q1⟩)|(with_reducible exact⟨r0,r1⟩)|(with_reducible exact⟨s0,s1⟩)|(with_reducible exact⟨t0,t1⟩)|go_keep) (first
  |(refine step_append_bytes (o:=⟨some 10,_,_,_,_,_⟩) rfl (.tmp 6) (.tmp 9) rfl (w.heap.size+1) A1 8 c1 (nums [x]) rfl O1.out A2 (8*n) c2 (nums (ints f n)) rfl O2.out.bytes (nums_ints_len f n) (by omega) ?_;intro A3 c3 w3 ho3 hb3;have O3:=yH ho3;have B3:=yH (B2.out.trans hb3);have R3:=yH (R0.out.below B3.out (Nat.lt_succ_self _));have s0:=R3.out.cell (i:=0) rfl;have s1:=R3.out.cell (i:=1) rfl;clear ho3 hb3)
  |(go_at_call 139;(with_reducible refine(HN.out _ _ (by simp)).mono ?_);rintro e w1 ⟨A1,c1,rfl,ho1,hb1⟩;have O1':=yH (Own.base ho1 (b2:=w.heap.size+1) (by simp));have B1:=yH (show Below (w.heap.size+1) (w.alloc (arrC 221 x A n c)) w1 from Below.mono hb1 (by simp));have R1:=yH (R0.out.below B1.out (Nat.lt_succ_self _));have q0:=R1.out.cell (i:=0) rfl;have q1:=R1.out.cell (i:=1) rfl;clear ho1 hb1)
  |(go_at_call 139;(with_reducible refine(HN2.out w1 (b0.out.trans (B1.out.mono (Nat.le_succ _)))).mono ?_);rintro e w2 ⟨A2,c2,rfl,ho2,hb2⟩;have O2:=yH ho2;have O1:=yH (O1'.out.kept hb2 (yR _));have B2:=yH (B1.out.trans (hb2.mono (by have:=B1.out.size;simpa using this)));have R2:=yH (R0.out.below B2.out (Nat.lt_succ_self _));have r0:=R2.out.cell (i:=0) rfl;have r1:=R2.out.cell (i:=1) rfl;clear ho2 hb2)
  |(go_at_call 145;(with_reducible refine(HP.out _ _ _ _ O3.out).mono ?_);rintro e w4 ⟨A4,c4,rfl,ho4,hb4⟩;have O4:=yH ho4;have B4:=yH hb4;have R4:=yH (R3.out.below hb4 R3.out.lt);have t0:=R4.out.cell (i:=0) rfl;have t1:=R4.out.cell (i:=1) rfl;clear ho4 hb4))
 go_wp2
 go_ret
 have Bw:=b0.out.trans (B3.out.mono (Nat.le_succ _))
 exact⟨A4,c4,rfl,Own.base O4.out Bw.size,Bw.trans (B4.out.mono Bw.size)⟩
theorem rputTable_at (kd:Int)(A:Option Addr)(n c:Nat)(f g:Nat→Int)(w:World)(h:kd=4∨kd=5)(hi:In2 w A n f g)(hn:n≤50000):
 Calls Tryz.prog 95 #[.int .i64 kd,.slice A n c] w (Owned (objB kd (nums (prs f g n))) (16+16*n+padN (16*n)) w):=by
 have HI:=yH hi
 have HP:=yH fun(B:Option Addr) (cb:Nat) (W:World) (ho:Own W w.heap.size B (16*n) cb (nums (prs f g n)))=>rput_yes kd B _ (16*n) cb W (by omega) ho.bytes ho.2.1 (by omega)
 unfold Owned at HP
 have HEs:=yH fun k:Nat=>nums_prs f g k
 generalize padN (16*n)=pn at*
 clear hi
 rcases h with rfl|rfl
 all_goals
  go_enter Tryz.func95,Tryz.ntmps95
  go_wp2
  go_loopw [5,6] (fun z i wr=> ∃(k:Nat) (A':Option Addr) (c':Nat),k≤n∧z= .slice A' (16*k) c'∧i= .int .i64 (k:Int)∧Hid (Own wr w.heap.size A' (16*k) c' (nums (prs f g k)))∧Hid (Below w.heap.size w wr)) (fun _ i _=>n-(intOf i).toNat)
  case atStart=>exact⟨0,none,0,Nat.zero_le _,rfl,rfl,Own.nil w _ (yR _),yH (Below.refl _ _)⟩
  case round=>
   obtain⟨k,A',c',hk,rfl,rfl,ho,hb⟩:=hrel
   have hsz:=hb.out.size
   by_cases hlt:k<n
   ·obtain⟨b,off,rfl,hlow,c0w,c1w,f01,g01⟩:=HI.out k hlt
    have c0:=(hb.out.cell (p:=⟨b,off+k*2,none⟩) hlow).trans c0w
    have c1':=(hb.out.cell (p:=⟨b,off+k*2+1,none⟩) hlow).trans c1w
    have hblt:b<wr.heap.size:=yL hlow hsz
    have HLo:=yH hlow
    have HEk:=yH (HEs.out k)
    clear c0w c1w hlow
    have HN:=yH fun(W:World) (g1:Nat) (hg:W.heap.size=g1)=>rnums_litd [f k,g k] 2 16 _ rfl W g1 hg (I64_two f01 g01) rfl (by decide) rfl
    dsimp only[List.map]at HN
    unfold NumsTold at HN
    generalize f k=X at*
    generalize g k=Y at*
    have u0:wr.drew.cell? ⟨b,off+k*2,none⟩=some (.int .u64 X):=c0
    have u1:wr.drew.cell? ⟨b,off+k*2+1,none⟩=some (.int .u64 Y):=c1'
    have hk0:(0:Int)≤(k:Int):=by omega
    have hkn:(k:Int)<(n:Int):=by omega
    have HBl:=yH hblt
    go_wp2
    go_region_held3 (fun W=>W.cell? ⟨b,off+k*2,none⟩=some (.int .u64 X)∧W.cell? ⟨b,off+k*2+1,none⟩=some (.int .u64 Y)) (first|(with_reducible exact⟨u0,u1⟩)|(with_reducible exact⟨q0,q1⟩)|(with_reducible exact⟨r0,r1⟩)|go_keep) (first
     |(go_at_call 139;(with_reducible refine(HN.out _ _ (by simp)).mono ?_);rintro e w2 ⟨A2,c2,rfl,ho2,hb2⟩;have O2:=yH ho2;have O3:=yH (ho.out.kept hb2 (yR _));have B2:=yH (hb.out.trans (hb2.mono hsz));have q0:=(hb2.cell (p:=⟨b,off+k*2,none⟩) HBl.out).trans u0;have q1:=(hb2.cell (p:=⟨b,off+k*2+1,none⟩) HBl.out).trans u1;clear ho2 hb2)
     |(refine step_append_bytes (o:=⟨some 32,_,_,_,_,_⟩) rfl (.tmp 19) (.tmp 31) rfl w.heap.size A' (16*k) c' _ rfl O3.out A2 16 c2 (nums [X,Y]) rfl O2.out.bytes (by rw[nums_len];rfl) (by omega) ?_;intro A3 c3 w3 ho3 hb3;have HO3:=yH ho3;have HB3:=yH (B2.out.trans hb3);have r0:=(hb3.cell (p:=⟨b,off+k*2,none⟩) HLo.out).trans q0;have r1:=(hb3.cell (p:=⟨b,off+k*2+1,none⟩) HLo.out).trans q1;clear ho3 hb3))
    all_goals
     go_wp2
     go_roundw
     case rel=>
      refine⟨k+1,A3,c3,by omega,rfl,by go_num,?_,HB3⟩
      rw[HEk.out]
      exact HO3
     case measure=>simp[intOf];omega
   ·obtain rfl:k=n:=by omega
    go_wp2_with(go_at_call 145;(with_reducible refine(HP.out _ _ _ ho.out).mono ?_);rintro e w5 ⟨A5,c5,rfl,ho5,hb5⟩;have HO5:=yH ho5;have HB5:=yH hb5;clear ho5 hb5)
    go_ret
    exact⟨A5,c5,rfl,Own.base HO5.out hb.out.size,hb.out.trans (HB5.out.mono hb.out.size)⟩
theorem rputEntry_any (s r m:Int)(K:Nat→Int)(x:Int)(A:Option Addr)(n c:Nat)(f g:Nat→Int)(w:World)(hi:In2 w A n f g)(hn:n≤50000)(hK:IdOk K)(hs:0≤s∧s≤18446744073709551615)(hr:0≤r∧r≤18446744073709551615)(hm:0≤m∧m≤18446744073709551615)(hx:0≤x∧x≤18446744073709551615):
 Calls Tryz.prog 101 #[entV s r m K x A n c] w (Owned (objB 3 (entB s r m K x (prs f g n))) (16+(48+16*n)+padN (48+16*n)) w):=by
 have HI:=yH hi
 have b0:=yH ((Below.refl w.heap.size w).alloc (yR _) (entC 203 s r m K x A n c))
 have R0:=yH (show Blk (w.alloc (entC 203 s r m K x A n c)) w.heap.size (entL s r m K x A n c) 203 from Blk.new w _ _)
 have hI3:I64 [s,r,m]:=by intro v hv;simp at hv;rcases hv with rfl|rfl|rfl<;>assumption
 have i0:=R0.out.drew.cell (i:=0) rfl
 have i1:=R0.out.drew.cell (i:=1) rfl
 have i2:=R0.out.drew.cell (i:=2) rfl
 have PB:=yH (R0.out.alloc (.cells #[.int .u64 s,.int .u64 r,.int .u64 m] 27)).drew
 have pb0:=PB.out.cell (i:=0) rfl
 have pb1:=PB.out.cell (i:=1) rfl
 have pb2:=PB.out.cell (i:=2) rfl
 have HLt:=yH (Nat.lt_succ_self w.heap.size)
 have HN:=yH fun(W:World) (g:Nat) (hg:W.heap.size=g)=>rnums_litd [s,r,m] 3 24 _ rfl W g hg hI3 rfl (by decide) rfl
 have HNx:=yH fun(W:World) (g:Nat) (hg:W.heap.size=g)=>rnums_lit [x] 1 8 _ rfl W g hg (I64_one hx) rfl (by decide) rfl
 dsimp only[List.map]at HN HNx
 unfold NumsTold at HN HNx
 have HEs:=yH fun k:Nat=>show entB s r m K x (prs f g (k+1))=entB s r m K x (prs f g k)++nums [f k,g k]by unfold entB;rw[nums_prs];simp
 have HP:=yH fun(B:Option Addr) (cb:Nat) (W:World) (ho:Own W (w.heap.size+1) B (48+16*n) cb (entB s r m K x (prs f g n)))=>rput_yes 3 B _ (48+16*n) cb W (by decide) ho.bytes ho.2.1 (by omega)
 unfold Owned at HP
 have hcat:nums [s,r,m]++idL K++nums [x]=entB s r m K x (prs f g 0):=by unfold entB;rw[prs_zero,nums_nil,List.append_nil]
 have HCat:=yH hcat
 generalize padN (48+16*n)=pn at*
 clear hi hcat hI3
 go_enter Tryz.func101,Tryz.ntmps101
 go_wp2
 go_region_held3 (fun W=>W.cell? ⟨w.heap.size,0,none⟩=some (.int .u64 s)∧W.cell? ⟨w.heap.size,1,none⟩=some (.int .u64 r)∧W.cell? ⟨w.heap.size,2,none⟩=some (.int .u64 m)) (first|(with_reducible exact⟨i0,i1,i2⟩)|(with_reducible exact⟨pb0,pb1,pb2⟩)|(with_reducible exact⟨q0,q1,q2⟩)|(with_reducible exact⟨r0,r1,r2⟩)|go_keep) (first
  |(go_at_call 139;(with_reducible refine(HN.out _ _ (by simp)).mono ?_);rintro e w1 ⟨A1,c1,rfl,ho1,hb1⟩;have O1:=yH (Own.base ho1 (b2:=w.heap.size+1) (by simp));have B1:=yH (show Below (w.heap.size+1) (w.alloc (entC 203 s r m K x A n c)) w1 from Below.mono hb1 (by simp));have R1:=yH (R0.out.below B1.out HLt.out);have HId:=yH (ent_id R1.out hK);have q0:=R1.out.cell (i:=0) rfl;have q1:=R1.out.cell (i:=1) rfl;have q2:=R1.out.cell (i:=2) rfl;clear ho1 hb1)
  |(refine step_append_bytes (o:=⟨some 15,_,_,_,_,_⟩) rfl (.tmp 12) (.tmp 14) rfl (w.heap.size+1) A1 24 c1 (nums [s,r,m]) rfl O1.out (some ⟨w.heap.size,3,none⟩) 16 16 (idL K) rfl HId.out rfl (by decide) ?_;intro A2 c2 w2 ho2 hb2;have HO2:=yH ho2;have HB2:=yH (B1.out.trans hb2);have R2:=yH (R0.out.below HB2.out HLt.out);have r0:=R2.out.cell (i:=0) rfl;have r1:=R2.out.cell (i:=1) rfl;have r2:=R2.out.cell (i:=2) rfl;have j19:=R2.out.cell (i:=19) rfl;clear ho2 hb2))
 clear i0 i1 i2 pb0 pb1 pb2 q0 q1 q2 r0 r1 r2
 go_wp2_with(first
  |(go_at_call 139;(with_reducible refine(HNx.out _ _ (by simp)).mono ?_);rintro e w3 ⟨A3,c3,rfl,ho3,hb3⟩;have O3:=yH ho3;have HO2k:=yH (HO2.out.kept hb3 (yR _));have HB3:=yH (HB2.out.trans (hb3.mono (by have:=HB2.out.size;simpa using this)));clear ho3 hb3)
  |(at_builtin;refine wpList_append_bytes rfl (.tmp 16) (.tmp 20) rfl (w.heap.size+1) A2 40 c2 _ rfl HO2k.out A3 8 c3 (nums [x]) rfl O3.out.bytes (by rw[nums_len];rfl) (by decide) ?_;intro A4 c4 w4 ho4 hb4;rw[HCat.out]at ho4;have HO4:=yH ho4;have HB4:=yH (HB3.out.trans hb4);have R4:=yH (R0.out.below HB4.out HLt.out);have k20:=R4.out.cell (i:=20) rfl;clear ho4 hb4))
 go_loopw [3,4] (fun z i wr=> ∃(k:Nat) (A':Option Addr) (c':Nat),k≤n∧z= .slice A' (48+16*k) c'∧i= .int .i64 (k:Int)∧Hid (Own wr (w.heap.size+1) A' (48+16*k) c' (entB s r m K x (prs f g k)))∧Hid (Below (w.heap.size+1) (w.alloc (entC 203 s r m K x A n c)) wr)) (fun _ i _=>n-(intOf i).toNat)
 case atStart=>exact⟨0,A4,c4,Nat.zero_le _,rfl,rfl,HO4,HB4⟩
 case round=>
  obtain⟨k,A',c',hk,rfl,rfl,ho,hb⟩:=hrel
  have Bw:=yH (b0.out.trans (hb.out.mono (Nat.le_succ _)))
  have hsz:w.heap.size+1≤wr.heap.size:=by have:=hb.out.size;simpa using this
  have Rr:=yH (R0.out.below hb.out HLt.out)
  have l20:=Rr.out.cell (i:=20) rfl
  by_cases hlt:k<n
  ·obtain⟨b,off,rfl,hlow,c0w,c1w,f01,g01⟩:=HI.out k hlt
   have c0:=(Bw.out.cell (p:=⟨b,off+k*2,none⟩) hlow).trans c0w
   have c1':=(Bw.out.cell (p:=⟨b,off+k*2+1,none⟩) hlow).trans c1w
   have hblt:b<wr.heap.size:=by omega
   have hlow1:b<w.heap.size+1:=by omega
   have HLo:=yH hlow1
   have HEk:=yH (HEs.out k)
   clear c0w c1w hlow hlow1
   have HN2:=yH fun(W:World) (g1:Nat) (hg:W.heap.size=g1)=>rnums_litd [f k,g k] 2 16 _ rfl W g1 hg (I64_two f01 g01) rfl (by decide) rfl
   dsimp only[List.map]at HN2
   unfold NumsTold at HN2
   generalize f k=X at*
   generalize g k=Y at*
   have u0:wr.drew.cell? ⟨b,off+k*2,none⟩=some (.int .u64 X):=c0
   have u1:wr.drew.cell? ⟨b,off+k*2+1,none⟩=some (.int .u64 Y):=c1'
   have u2:wr.drew.cell? ⟨w.heap.size,20,none⟩=some (.slice (some ⟨b,off,none⟩) n c):=l20
   have Na:=yH ((Below.refl wr.heap.size wr).alloc (yR _) (.cells #[.int .u64 X,.int .u64 Y] 27)).drew
   have v0:=(Na.out.cell (p:=⟨b,off+k*2,none⟩) hblt).trans c0
   have v1:=(Na.out.cell (p:=⟨b,off+k*2+1,none⟩) hblt).trans c1'
   have v2:=(Na.out.cell (p:=⟨w.heap.size,20,none⟩) (by show w.heap.size<wr.heap.size;omega)).trans l20
   have hk0:(0:Int)≤(k:Int):=by omega
   have hkn:(k:Int)<(n:Int):=by omega
   have HBl:=yH hblt
   go_wp2
   go_region_held3 (fun W=>W.cell? ⟨b,off+k*2,none⟩=some (.int .u64 X)∧W.cell? ⟨b,off+k*2+1,none⟩=some (.int .u64 Y)∧W.cell? ⟨w.heap.size,20,none⟩=some (.slice (some ⟨b,off,none⟩) n c)) (first|(with_reducible exact⟨u0,u1,u2⟩)|(with_reducible exact⟨v0,v1,v2⟩)|(with_reducible exact⟨q0,q1,q2⟩)|(with_reducible exact⟨r0,r1,r2⟩)|go_keep) (first
    |(go_at_call 139;(with_reducible refine(HN2.out _ _ (by simp)).mono ?_);rintro e w5 ⟨A5,c5,rfl,ho5,hb5⟩;have O5:=yH ho5;have O6:=yH (ho.out.kept hb5 (yR _));have B5:=yH (hb.out.trans (hb5.mono hsz));have q0:=(hb5.cell (p:=⟨b,off+k*2,none⟩) HBl.out).trans u0;have q1:=(hb5.cell (p:=⟨b,off+k*2+1,none⟩) HBl.out).trans u1;have q2:=(hb5.cell (p:=⟨w.heap.size,20,none⟩) (by show w.heap.size<wr.heap.size;omega)).trans u2;clear ho5 hb5)
    |(refine step_append_bytes (o:=⟨some 44,_,_,_,_,_⟩) rfl (.tmp 29) (.tmp 43) rfl (w.heap.size+1) A' (48+16*k) c' _ rfl O6.out A5 16 c5 (nums [X,Y]) rfl O5.out.bytes (by rw[nums_len];rfl) (by omega) ?_;intro A7 c7 w7 ho7 hb7;have HO7:=yH ho7;have HB7:=yH (B5.out.trans hb7);have r0:=(hb7.cell (p:=⟨b,off+k*2,none⟩) HLo.out).trans q0;have r1:=(hb7.cell (p:=⟨b,off+k*2+1,none⟩) HLo.out).trans q1;have r2:=(hb7.cell (p:=⟨w.heap.size,20,none⟩) HLt.out).trans q2;clear ho7 hb7))
   all_goals
    go_wp2
    go_roundw
    case rel=>
     refine⟨k+1,A7,c7,by omega,rfl,by go_num,?_,HB7⟩
     rw[HEk.out]
     exact HO7
    case measure=>simp[intOf];omega
  ·obtain rfl:k=n:=by omega
   go_wp2_with(go_at_call 145;(with_reducible refine(HP.out _ _ _ ho.out).mono ?_);rintro e w5 ⟨A5,c5,rfl,ho5,hb5⟩;have HO5:=yH ho5;have HB5:=yH hb5;clear ho5 hb5)
   go_ret
   exact⟨A5,c5,rfl,Own.base HO5.out Bw.out.size,Bw.out.trans (HB5.out.mono Bw.out.size)⟩
end Yk
namespace Ye
open Bytes8 Blk8 Own8 OwnE Ob Oc Og Oi Rows2 Kf Yc Yp
def Bodied2 (l:List Int)(a:Nat)(k:Int)(ah ea:Nat)(w:World)(e:Ending)(w':World):Prop:=
 ∃B m cb,e= .returned (.tuple #[.slice B m cb,.int .i64 (ecode l a k ah ea)])∧Below w.heap.size w w'∧(ecode l a k ah ea=0→Bytes w' B (bodyL l a)∧(bodyL l a).length=m∧m≤cb∧cb≤maxLen∧m≤1000000)
theorem bodyOf_e (A:Option Addr)(l:List Int)(n cap a ah ea:Nat)(k:Int)(w:World)(hb:Bytes w A l)(hL:l.length=n)(hn:n≤1000000)(hc:n≤cap)(hcm:cap≤maxLen)(ha:a≤18446744073709551615)(hah:ah≤1000)(hea:ea≤1000)(he0:0<ea)(hmod:ah%ea=0):
 Calls Tryz.prog 202 #[.slice A n cap,.int .u64 (a:Int),.int .i64 k,.int .i64 (ah:Int),.int .i64 (ea:Int)] w (Bodied2 l a k ah ea w):=by
 have HR:=yH (read_any A l n cap a w hb hL hn hc hcm ha)
 unfold FrTold at HR
 unfold Bodied2
 have hbc:ecode l a k ah ea=if code l a≠0 then code l a else if kindL l a≠k then 4 else if(bodyL l a).length<ah+ea∨(bodyL l a).length%ea≠0 then 5 else 0:=rfl
 by_cases h1:code l a≠0
 ·rw[if_pos h1]at hbc
  rw[hbc]
  clear hbc
  generalize code l a=cd at*
  generalize kindL l a=kd at*
  generalize sizeL l a=s at*
  have HX:Hid (cd≠0):=yH h1
  clear hb hL
  go_enter Tryz.func202,Tryz.ntmps202
  go_wp2_with(go_at_call 22;(with_reducible refine HR.out.mono ?_);rintro e w2 ⟨rfl,hbel⟩;have HB:=yH hbel;clear hbel)
  go_ret2
  exact⟨none,0,0,rfl,HB.out.alloc HB.out.size _,fun h=>absurd h HX.out⟩
 have h0:code l a=0:=by omega
 obtain⟨m,hs,hbl,hfit,hbody,_⟩:=body_there hL h0
 rw[if_neg h1,hbl]at hbc
 have hs2:sizeL l a=16+(m:Int):=by omega
 rw[h0,hs2]at HR
 by_cases h2:kindL l a≠k
 ·rw[if_pos h2]at hbc
  rw[hbc]
  generalize kindL l a=kd at*
  clear hb hL hbc hs hs2 hbl hbody h1 h0
  go_enter Tryz.func202,Tryz.ntmps202
  go_wp2_with(go_at_call 22;(with_reducible refine HR.out.mono ?_);rintro e w2 ⟨rfl,hbel⟩;have HB:=yH hbel;clear hbel)
  go_ret2
  exact⟨none,0,0,rfl,HB.out.alloc HB.out.size _,fun h=>absurd h (by decide)⟩
 have h2':kindL l a=k:=by omega
 rw[if_neg h2]at hbc
 rw[h2']at HR
 have hcut:=cutu_lh A n cap (a+16) (a+16+m) ((a:Int)+16) ((a:Int)+(16+(m:Int))) (by omega) (by omega) (by omega) (by omega)
 have HBC:=yH (Bytes.cut hb cap (a+16) m (by omega))
 rw[←hbody]at HBC
 rw[show a+16+m-(a+16)=m by omega]at hcut
 have hcap:m≤cap-(a+16)∧cap-(a+16)≤maxLen:=by omega
 generalize cap-(a+16)=cb at*
 generalize cutA A cap (a+16)=C at*
 have HCap:=yH hcap
 have HBl:=yH hbl
 have ham:a+16+m≤1000000:=by omega
 unfold maxLen at hcm
 clear hb hL hs hs2 hbl hbody h1 h0 h2 h2' hcap
 by_cases h3:m<ah+ea
 ·rw[if_pos (Or.inl h3)]at hbc
  rw[hbc]
  have h3':(m:Int)-(ah:Int)<(ea:Int):=by omega
  clear hbc
  go_enter Tryz.func202,Tryz.ntmps202
  go_wp2_with(go_at_call 22;(with_reducible refine HR.out.mono ?_);rintro e w2 ⟨rfl,hbel⟩;have HB:=yH hbel;clear hbel)
  go_ret2
  exact⟨none,0,0,rfl,HB.out.alloc HB.out.size _,fun h=>absurd h (by decide)⟩
 have h3': ¬(m:Int)-(ah:Int)<(ea:Int):=by omega
 obtain⟨q,hq⟩: ∃q,ah=ea*q:=⟨ah/ea,by have:=Nat.div_add_mod ah ea;omega⟩
 have hmm:(m-ah)%ea=m%ea:=by
  subst hq
  have:m=(m-ea*q)+ea*q:=by omega
  conv=>rhs;rw[this,Nat.add_mul_mod_self_left]
 have hrem:((m:Int)-(ah:Int)).tmod (ea:Int)=((m%ea:Nat):Int):=by
  rw[show(m:Int)-(ah:Int)=((m-ah:Nat):Int)by omega,Int.tmod_eq_emod_of_nonneg (by omega),←hmm]
  omega
 have hea0: ¬(ea:Int)=0:=by omega
 clear hq hmm
 by_cases h4:m%ea=0
 ·rw[if_neg (by omega)]at hbc
  rw[hbc]
  rw[h4]at hrem
  clear hbc
  go_enter Tryz.func202,Tryz.ntmps202
  go_wp2_with(go_at_call 22;(with_reducible refine HR.out.mono ?_);rintro e w2 ⟨rfl,hbel⟩;have HB:=yH hbel;clear hbel)
  go_ret2
  exact⟨C,m,cb,rfl,HB.out.alloc HB.out.size _,fun _=>⟨HBC.out.below (HB.out.alloc HB.out.size _) (yR _),HBl.out,HCap.out.1,HCap.out.2,by omega⟩⟩
 ·rw[if_pos (Or.inr h4)]at hbc
  rw[hbc]
  obtain⟨R,hR⟩: ∃R:Int,R=((m%ea:Nat):Int):=⟨_,rfl⟩
  rw[←hR]at hrem
  have h4': ¬R=0:=by omega
  have h5:(R==0)=false:=by simpa using h4'
  have h6:(R !=0)=true:=by simpa using h4'
  have h7:decide (R=0)=false:=by simpa using h4'
  clear hbc hR h4
  go_enter Tryz.func202,Tryz.ntmps202
  go_wp2_with(go_at_call 22;(with_reducible refine HR.out.mono ?_);rintro e w2 ⟨rfl,hbel⟩;have HB:=yH hbel;clear hbel)
  ·go_ret2
   exact⟨none,0,0,rfl,HB.out.alloc HB.out.size _,fun h=>absurd h (by decide)⟩
  all_goals (rename_i hx;trace_state;simp at hx;exact absurd hx h4')
theorem bodyOf_z (A:Option Addr)(l:List Int)(n cap a ah ea:Nat)(k zh ze:Int)(w:World)(hb:Bytes w A l)(hL:l.length=n)(hn:n≤1000000)(hc:n≤cap)(hcm:cap≤maxLen)(ha:a≤18446744073709551615)(hah:ah≤1000)(hea:ea≤1000)(he0:0<ea)(hmod:ah%ea=0)(hzh:zh=(ah:Int))(hze:ze=(ea:Int)):
 Calls Tryz.prog 202 #[.slice A n cap,.int .u64 (a:Int),.int .i64 k,.int .i64 zh,.int .i64 ze] w (Bodied2 l a k ah ea w):=by
 subst hzh hze
 exact bodyOf_e A l n cap a ah ea k w hb hL hn hc hcm ha hah hea he0 hmod
theorem number_e (A:Option Addr)(l:List Int)(n cap i:Nat)(z:Int)(w:World)(hb:Bytes w A l)(hL:l.length=n)(hn:n≤1000000)(hi:i+8≤n)(hz:z=(i:Int)):
 Calls Tryz.prog 203 #[.slice A n cap,.int .i64 z] w fun e w'=>e= .returned (.int .u64 (u8 l i))∧w=w':=by
 subst hz
 have HG:=yH fun(z:Int) (hz:z=(i:Int))=>get8 A l n cap i z w hz hL hn hb hi
 generalize u8 l i=x at*
 clear hb hL
 go_enter Tryz.func203,Tryz.ntmps203
 go_wp2_with(go_at_call 69;(with_reducible refine(HG.out _ rfl).mono ?_);rintro e w' ⟨rfl,rfl⟩)
 go_ret
 exact⟨rfl,rfl⟩
def Part2 (w:World)(g m k:Nat)(f h:Nat→Int)(T:TypeId):Prop:=
 ∃vs:List Value,Blk w g vs T∧vs.length=m*2∧ ∀i,i<k→vs[i*2]? =some (.int .u64 (f i))∧vs[i*2+1]? =some (.int .u64 (h i))
theorem Part2.new (w:World)(m:Nat)(f h:Nat→Int)(T:TypeId):Part2 (w.alloc (.cells (Array.replicate (m*2) (Value.int .u64 0)) T)) w.heap.size m 0 f h T:=
 ⟨List.replicate (m*2) (.int .u64 0),by have:=Blk.new w (List.replicate (m*2) (.int .u64 0)) T;simpa using this,by simp,fun i hi=>absurd hi (by omega)⟩
theorem Part2.lt {w:World}{g m k:Nat}{f h:Nat→Int}{T:TypeId}(hp:Part2 w g m k f h T):g<w.heap.size:=by
 obtain⟨vs,hb,_⟩:=hp
 exact hb.lt
theorem Part2.cells {w:World}{g m k:Nat}{f h:Nat→Int}{T:TypeId}(hp:Part2 w g m k f h T)(hk:k<m):(∃u v,w.cell? ⟨g,k*2,none⟩=some u∧w.cell? ⟨g,k*2+1,none⟩=some v)∧w.frozen? ⟨g,k*2,none⟩=false∧w.frozen? ⟨g,k*2+1,none⟩=false:=by
 obtain⟨vs,hb,hl,_⟩:=hp
 exact⟨⟨vs[k*2],vs[k*2+1],hb.cell (List.getElem?_eq_getElem (by omega)),hb.cell (List.getElem?_eq_getElem (by omega))⟩,hb.frozen _,hb.frozen _⟩
theorem Part2.step {w:World}{g m k:Nat}{f h:Nat→Int}{T:TypeId}(hp:Part2 w g m k f h T)(hk:k<m):Part2 ((w.setCell ⟨g,k*2,none⟩ (.int .u64 (f k))).setCell ⟨g,k*2+1,none⟩ (.int .u64 (h k))) g m (k+1) f h T:=by
 obtain⟨vs,hb,hl,hv⟩:=hp
 refine⟨_,(hb.set_ (k*2) _).set_ (k*2+1) _,by simp[hl],fun i hi=>?_⟩
 rcases Nat.lt_or_ge i k with h1|h1
 ·obtain⟨e1,e2⟩:=hv i h1
  rw[List.getElem?_set,List.getElem?_set,List.getElem?_set,List.getElem?_set,if_neg (by omega),if_neg (by omega),if_neg (by omega),if_neg (by omega)]
  exact⟨e1,e2⟩
 ·obtain rfl:i=k:=by omega
  rw[List.getElem?_set,List.getElem?_set,List.getElem?_set,if_neg (by omega),if_pos rfl,if_pos (by omega),if_pos rfl,if_pos (by simp;omega)]
  exact⟨rfl,rfl⟩
theorem Part2.in2 {w:World}{g m:Nat}{f h:Nat→Int}{T:TypeId}(hp:Part2 w g m m f h T)(hf: ∀i,0≤f i∧f i≤18446744073709551615)(hh: ∀i,0≤h i∧h i≤18446744073709551615):In2 w (some ⟨g,0,none⟩) m f h:=fun i hi=>by
 obtain⟨vs,hb,hl,hv⟩:=hp
 obtain⟨e1,e2⟩:=hv i hi
 exact⟨g,0,rfl,hb.lt,by rw[Nat.zero_add];exact hb.cell e1,by rw[Nat.zero_add];exact hb.cell e2,hf i,hh i⟩
theorem itemInfo:(Tryz.prog.info? 268).map (fun i=>(i.zero,i.size,i.bytes))=some (some (.agg #[.int .u64 0,.int .u64 0]),2,16):=by kernel_rfl
theorem made_two (p:Nat):madeCells #[Value.int .u64 0,Value.int .u64 0] (p*2)=Array.replicate (p*2) (Value.int .u64 0):=by
 apply Array.ext
 ·simp[madeCells]
 ·intro i h1 h2
  simp only[madeCells,Array.getElem_map,Array.getElem_range,Array.getElem_replicate]
  have:i%2=0∨i%2=1:=by omega
  rcases this with h|h<;>simp[h]
theorem make_two (S T:TypeId)(ht:Tryz.prog.underlying S=some (.slice T))(hinfo:(Tryz.prog.info? T).map (fun i=>(i.zero,i.size,i.bytes))=some (some (.agg #[.int .u64 0,.int .u64 0]),2,16))(p:Nat)(z:Int)(hz:z=(p:Int))(hp:p≤1000000)(w:World):
 (Instr.makeSlice S (.int .i64 z) (.int .i64 z)).run Tryz.prog w= .ok (.slice (some ⟨w.heap.size,0,none⟩) p p) (w.alloc (.cells (Array.replicate (p*2) (Value.int .u64 0)) T)):=by
 subst hz
 obtain⟨i,hi,hzz⟩:=Option.map_eq_some_iff.1 hinfo
 simp only[Prod.mk.injEq]at hzz
 obtain⟨hz,hs,hb⟩:=hzz
 have h:=run_make (P:=Tryz.prog) w S T i _ ht hi hz .i64 .i64 (p:Int) (p:Int) (by omega) (Int.le_refl _) (by rw[hb];omega) (by omega)
 rw[hs,Int.toNat_natCast]at h
 rw[h]
 show Result.ok _ (w.alloc (.cells (madeCells #[Value.int .u64 0,Value.int .u64 0] (p*2)) T))=_
 rw[made_two]
end Ye
end Go.Proofs.YtiddkgcafpaekaaGreat
