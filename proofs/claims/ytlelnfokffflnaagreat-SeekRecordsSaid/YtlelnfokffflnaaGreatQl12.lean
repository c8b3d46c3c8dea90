/-
  Texts beneath the proof.
-/
import Derived.Test.YtlelnfokffflnaaGreatQl11
set_option linter.unusedVariables false
set_option linter.unusedSimpArgs false
set_option maxRecDepth 100000
set_option maxHeartbeats 8000000
open Go.ChangeShapes Go.WideShapes Go.ChangeAt Go.RowKit
namespace Go.Proofs.YtlelnfokffflnaaGreat
namespace Gt
open Bytes8 Blk8 Own8 OwnE Ob Od Ga Gb Gf Gi Gj Gl Gq
open Gm (flB stB fcode aFY)
open Go1 (magicB hcode aA5)
theorem aAt:Tryz.prog.built 99 []=some (hd0.cells 20).toArray:=by kernel_rfl
theorem aCW {fn:Func}{p u v:Tmp}{b:TypeId}(h:fn.results= #[.cell p b,.tmp u,.tmp v])(tmps:Array Value)(P:Program)(w:World):
 (results fn tmps).run P w=((asAddr (tmps.getD p undef)).run P w).andThen fun a w=>((loadVar b a).run P w).andThen fun x w=> .ok (.tuple #[x,tmps.getD u undef,tmps.getD v undef]) w:=by
 simp[results,h]
theorem aAJ {P:Program}{fn:Func}{p u v:Tmp}{b:TypeId}(h:fn.results= #[.cell p b,.tmp u,.tmp v])(tmps:Array Value)(w:World)(g:Nat)(t:TypeId)(a:Array Value)(fr:Nat×Nat)(d:TypeDesc)(c e:Value)
 (n:tmps.getD p undef= .pointer (some ⟨g,0,none⟩))(j:tmps.getD u undef=c)(k:tmps.getD v undef=e)(f:w.heap[g]? =some (.cells a t fr))(l:P.underlying b=some d)(i:(match d with| .struct _| .array _ _=>true|_=>false)=true)(m:(P.info? b).map (·.size)=some a.size):
 (results fn tmps).run P w= .ok (.tuple #[.agg a,c,e]) w:=by
 rw[aCW h,n,j,k]
 simp[asAddr,run_loadVar_row w g t b a fr d f l i m,Result.andThen]
abbrev RTold (h:HD)(dp c:Int)(w:World)(e:Ending)(w':World):Prop:=e= .returned (.tuple #[.agg (h.cells 20).toArray,.int .u64 dp,.int .i64 c])∧Below w.heap.size w w'
attribute [local irreducible] HD.cells wpList Code.wp
theorem aHc (A:Option Addr)(n c:Nat)(w:World)(f:n<272):
 Calls Tryz.prog 90 #[.slice A n c] w (RTold hd0 0 22 w):=by
 have d:(n:Int)<272:=by omega
 go_enter Tryz.func90,Tryz.ntmps90
 go_upto_region 1 with fail
 have b:=yH ((Below.refl w.heap.size w).alloc (yR _) (.cells Tryz.zeroCells99 99))
 have a:=yH (heap_alloc_new w (.cells Tryz.zeroCells99 99))
 have e:=yH (show(w.alloc (.cells Tryz.zeroCells99 99)).heap.size=w.heap.size+1 by simp)
 generalize w.alloc (.cells Tryz.zeroCells99 99)=w1 at*
 go_wp2_with(first
  |((with_reducible apply aAb 13);refine aAh rfl 99 rfl _ aAt ?_)
  |((with_reducible apply aAa (.tmp 2) (.tmp 13));refine wpList_store_row rfl 99 (.tmp 2) (.tmp 13) rfl w.heap.size (hd0.cells 20).toArray rfl rfl 99 Tryz.zeroCells99 a.out (aAc _) aAk (HD.one _ 20) ?_)
  |fail)
 refine bodyPost_ret (v:= .tuple #[.agg (hd0.cells 20).toArray,.int .u64 0,.int .i64 22]) (by exact aAJ Tryz.results90 _ _ w.heap.size 99 _ (0,0) _ _ _ rfl rfl rfl (setRow_heap _ _ _ _ _ (0,0) a.out) Tryz.underlying99 rfl (aAc _)) rfl ?_
 exact⟨rfl,below_setRow b.out (yR _) _⟩
theorem aHd (A:Option Addr)(l:List Int)(n c:Nat)(w:World)(g:Bytes w A l)(k:l.length=n)(e:272≤n)(o:n≤c)(b:magicB l=false):
 Calls Tryz.prog 90 #[.slice A n c] w (RTold hd0 0 6 w):=by
 have p: ¬(n:Int)<272:=by omega
 go_enter Tryz.func90,Tryz.ntmps90
 go_upto_region 1 with fail
 have d:=yH ((Below.refl w.heap.size w).alloc (yR _) (.cells Tryz.zeroCells99 99))
 have f:=yH (heap_alloc_new w (.cells Tryz.zeroCells99 99))
 have q:=yH (show(w.alloc (.cells Tryz.zeroCells99 99)).heap.size=w.heap.size+1 by simp)
 generalize w.alloc (.cells Tryz.zeroCells99 99)=w1 at*
 have i:(l.take 8).length=8:=by simp;omega
 have a:=yH (g.below d.out (yR _))
 have h:=(aA5 a.out 8).string c 8 i
 have m:(!(strOfNums (l.take 8)).toList== [76,80,75,83,72,72,82,72])=true:=by unfold magicB at b;rw[b];rfl
 generalize strOfNums (l.take 8)=S at*
 have j:(8:Int)≤(c:Int):=by omega
 go_wp2_with(first
  |((with_reducible apply aAb 18);refine aAh rfl 99 rfl _ aAt ?_)
  |((with_reducible apply aAa (.tmp 2) (.tmp 18));refine wpList_store_row rfl 99 (.tmp 2) (.tmp 18) rfl w.heap.size (hd0.cells 20).toArray rfl rfl 99 Tryz.zeroCells99 f.out (aAc _) aAk (HD.one _ 20) ?_)
  |fail)
 refine bodyPost_ret (v:= .tuple #[.agg (hd0.cells 20).toArray,.int .u64 0,.int .i64 6]) (by exact aAJ Tryz.results90 _ _ w.heap.size 99 _ (0,0) _ _ _ rfl rfl rfl (setRow_heap _ _ _ _ _ (0,0) f.out) Tryz.underlying99 rfl (aAc _)) rfl ?_
 exact⟨rfl,below_setRow d.out (yR _) _⟩
theorem aHe (A:Option Addr)(l:List Int)(n c:Nat)(w:World)(y:Bytes w A l)(hL:l.length=n)(C:272≤n)(hn:n≤1000000)(hc:n≤c)(hm:magicB l=true):
 Calls Tryz.prog 90 #[.slice A n c] w (RTold (if fcode (hdOf l) n=0 then hdOf l else hd0) (if fcode (hdOf l) n=0 then Ob.u8 l 248 else 0) (fcode (hdOf l) n) w):=by
 have d1: ¬(n:Int)<272:=by omega
 have HT:=yH fun(W:World) (hW:Bytes W A l)=>aOt A l n c W hW hL C hn
 have i:=aDk y.1 20
 have f:=aDk y.1 21
 have HE:=yH fun(W:World)=>aI3 (hdOf l) i W
 have F:=y.1.at_ 16
 have o:(hdOf l).st=l.getD 16 0:=rfl
 rw[←o]at F
 clear o
 generalize Ob.u8 l 248=dp at*
 go_enter Tryz.func90,Tryz.ntmps90
 go_upto_region 1 with fail
 have b1:=yH ((Below.refl w.heap.size w).alloc (yR _) (.cells Tryz.zeroCells99 99))
 have Z1:=yH (heap_alloc_new w (.cells Tryz.zeroCells99 99))
 have S1:=yH (show(w.alloc (.cells Tryz.zeroCells99 99)).heap.size=w.heap.size+1 by simp)
 generalize w.alloc (.cells Tryz.zeroCells99 99)=w1 at*
 have H:(l.take 8).length=8:=by simp;omega
 have p:=yH (y.below b1.out (yR _))
 have X:=(aA5 p.out 8).string c 8 H
 have hS:(!(strOfNums (l.take 8)).toList== [76,80,75,83,72,72,82,72])=false:=by unfold magicB at hm;rw[hm];rfl
 generalize strOfNums (l.take 8)=S at*
 have ab:(8:Int)≤(c:Int):=by omega
 clear H hm
 go_upto_region 6 with(first
  |(go_at_call 149;((with_reducible refine(HT.out _ p.out).mono ?_);rintro e w2 ⟨rfl,B⟩;have I:=yH B;clear B))
  |((with_reducible apply aAa (.tmp 5) (.tmp 22));refine wpList_store_row rfl 99 (.tmp 5) (.tmp 22) rfl w2.heap.size ((hdOf l).cells 20).toArray rfl rfl 99 Tryz.zeroCells99 (heap_alloc_new w2 _) (aAc _) aAk (HD.one _ 20) ?_)
  |fail)
 have G:=yH (show Blk ((w2.alloc (.cells Tryz.zeroCells99 99)).setRow w2.heap.size ((hdOf l).cells 20).toArray) w2.heap.size ((hdOf l).cells 20) 99 from setRow_heap _ _ _ _ _ (0,0) (heap_alloc_new w2 _))
 have Z:=yH (show Below w1.heap.size w1 ((w2.alloc (.cells Tryz.zeroCells99 99)).setRow w2.heap.size ((hdOf l).cells 20).toArray)from below_setRow (I.out.alloc I.out.size _) I.out.size _)
 generalize (w2.alloc (.cells Tryz.zeroCells99 99)).setRow w2.heap.size ((hdOf l).cells 20).toArray=w3 at*
 clear X hS y p HT
 go_upto_region 7 with(first
  |((with_reducible apply aAb 25);refine wpList_load_row rfl 99 (.tmp 5) rfl w2.heap.size rfl 99 ((hdOf l).cells 20).toArray (0,0) _ G.out Tryz.underlying99 rfl (aAc _) ?_)
  |(go_at_call 91;((with_reducible refine(HE.out _).mono ?_);rintro e w4 ⟨rfl,s⟩;have k:=yH (G.out.below s G.out.lt);have B4:=yH (Z.out.trans (s.mono Z.out.size));clear s))
  |fail)
 have d:=yH ((B4.out.block w.heap.size (by rw[S1.out];exact Nat.lt_succ_self _)).trans Z1.out)
 have j:=yH (b1.out.trans (B4.out.mono (by rw[S1.out];exact Nat.le_succ _)))
 have c1:w4.cell? ⟨w2.heap.size,1,none⟩=some (.int .u32 (hdOf l).ic):=k.out.cell ((hdOf l).get 20 1 (by decide))
 have c2:w4.cell? ⟨w2.heap.size,2,none⟩=some (.int .i64 (hdOf l).st):=k.out.cell ((hdOf l).get 20 2 (by decide))
 have ac:=HD.nums_at k.out 0 (by decide)
 have ag:=HD.nums_at k.out 1 (by decide)
 have af:=HD.nums_at k.out 2 (by decide)
 have ad:=HD.nums_at k.out 3 (by decide)
 have aj:=HD.nums_at k.out 4 (by decide)
 have ai:=HD.nums_at k.out 5 (by decide)
 have ah:=i.ic
 obtain⟨p0,p1⟩:=i.N 0
 obtain⟨r0,r1⟩:=i.N 1
 have a:fcode (hdOf l) n=if flB (hdOf l).ic=true then 7 else if stB (hdOf l).st=false then 8 else if(hdOf l).N 0<272∨(hdOf l).N 0%8≠0∨(hdOf l).N 1%8≠0 then 5 else if endB (hdOf l)=false∨(n:Int)<endV (hdOf l)then 2 else if tcode ((hdOf l).N 2) ((hdOf l).N 3) ((hdOf l).N 0) (endV (hdOf l))≠0 then tcode ((hdOf l).N 2) ((hdOf l).N 3) ((hdOf l).N 0) (endV (hdOf l))else tcode ((hdOf l).N 4) ((hdOf l).N 5) ((hdOf l).N 0) (endV (hdOf l)):=rfl
 have z:=yH (aFY (hdOf l) f)
 have E:endB (hdOf l)=true→endV (hdOf l)=(hdOf l).N 0+(hdOf l).N 1:=fun h=>if_pos (of_decide_eq_true h)
 have r:=yH (aE7 ((hdOf l).N 0) (endV (hdOf l)) ((hdOf l).N 2) ((hdOf l).N 3) (i.N 0) (aFY _ f) (i.N 2) (i.N 3) w4)
 have D:=yH (aE7 ((hdOf l).N 0) (endV (hdOf l)) ((hdOf l).N 4) ((hdOf l).N 5) (i.N 0) (aFY _ f) (i.N 4) (i.N 5) w4)
 clear HE i f G Z I d1
 have b: ∀x:Int,fcode (hdOf l) n=x→Hid (fcode (hdOf l) n=x):=fun x hx=>yH hx
 generalize fcode (hdOf l) n=m at*
 have base: ∀cd:Int,m=cd→cd≠0→Hid (m=cd):=fun cd h _=>yH h
 by_cases h1:flB (hdOf l).ic=true
 ·rw[if_pos h1]at a
  subst a
  have M:(bits BinOp.andNot IntKind.u32 (hdOf l).ic 4 !=0)=true:=h1
  clear b base h1
  rw[if_neg (by decide),if_neg (by decide)]
  go_wp2_with(first
   |((with_reducible apply aAb 93);refine aAh rfl 99 rfl _ aAt ?_)
   |((with_reducible apply aAa (.tmp 2) (.tmp 93));refine wpList_store_row rfl 99 (.tmp 2) (.tmp 93) rfl w.heap.size (hd0.cells 20).toArray rfl rfl 99 Tryz.zeroCells99 d.out (aAc _) aAk (HD.one _ 20) ?_)
   |fail)
  refine bodyPost_ret (v:= .tuple #[.agg (hd0.cells 20).toArray,.int .u64 0,.int .i64 7]) (by exact aAJ Tryz.results90 _ _ w.heap.size 99 _ (0,0) _ _ _ rfl rfl rfl (setRow_heap _ _ _ _ _ (0,0) d.out) Tryz.underlying99 rfl (aAc _)) rfl ?_
  exact⟨rfl,below_setRow j.out (yR _) _⟩
 rw[if_neg h1]at a
 have M:(bits BinOp.andNot IntKind.u32 (hdOf l).ic 4 !=0)=false:=by have aa:flB (hdOf l).ic=false:=by simpa using h1
                                                                    exact aa
 clear h1
 by_cases h2:stB (hdOf l).st=false
 ·rw[if_pos h2]at a
  subst a
  have Y:2<(hdOf l).st:=by unfold stB at h2;simp at h2;omega
  have d2:decide (2<(hdOf l).st)=true:=by simp;omega
  clear b base h2
  rw[if_neg (by decide),if_neg (by decide)]
  go_wp2_with(first
   |((with_reducible apply aAb 93);refine aAh rfl 99 rfl _ aAt ?_)
   |((with_reducible apply aAa (.tmp 2) (.tmp 93));refine wpList_store_row rfl 99 (.tmp 2) (.tmp 93) rfl w.heap.size (hd0.cells 20).toArray rfl rfl 99 Tryz.zeroCells99 d.out (aAc _) aAk (HD.one _ 20) ?_)
   |fail)
  refine bodyPost_ret (v:= .tuple #[.agg (hd0.cells 20).toArray,.int .u64 0,.int .i64 8]) (by exact aAJ Tryz.results90 _ _ w.heap.size 99 _ (0,0) _ _ _ rfl rfl rfl (setRow_heap _ _ _ _ _ (0,0) d.out) Tryz.underlying99 rfl (aAc _)) rfl ?_
  exact⟨rfl,below_setRow j.out (yR _) _⟩
 rw[if_neg h2]at a
 have Y: ¬2<(hdOf l).st:=by unfold stB at h2;simp at h2;omega
 have d2:decide (2<(hdOf l).st)=false:=by simp;omega
 clear h2
 by_cases t:(hdOf l).N 0<272∨(hdOf l).N 0%8≠0∨(hdOf l).N 1%8≠0
 ·rw[if_pos t]at a
  subst a
  clear b base
  rw[if_neg (by decide),if_neg (by decide)]
  by_cases h4:(hdOf l).N 0<272
  ·have d4:decide ((hdOf l).N 0<272)=true:=by simp;omega
   clear t
   go_wp2_with(first
    |((with_reducible apply aAb 93);refine aAh rfl 99 rfl _ aAt ?_)
    |((with_reducible apply aAa (.tmp 2) (.tmp 93));refine wpList_store_row rfl 99 (.tmp 2) (.tmp 93) rfl w.heap.size (hd0.cells 20).toArray rfl rfl 99 Tryz.zeroCells99 d.out (aAc _) aAk (HD.one _ 20) ?_)
    |fail)
   refine bodyPost_ret (v:= .tuple #[.agg (hd0.cells 20).toArray,.int .u64 0,.int .i64 5]) (by exact aAJ Tryz.results90 _ _ w.heap.size 99 _ (0,0) _ _ _ rfl rfl rfl (setRow_heap _ _ _ _ _ (0,0) d.out) Tryz.underlying99 rfl (aAc _)) rfl ?_
   exact⟨rfl,below_setRow j.out (yR _) _⟩
  have d4:decide ((hdOf l).N 0<272)=false:=by simp;omega
  by_cases h5:(hdOf l).N 0%8=0
  ·have h6: ¬(hdOf l).N 1%8=0:=by omega
   clear t
   go_wp2_with(first
    |((with_reducible apply aAb 93);refine aAh rfl 99 rfl _ aAt ?_)
    |((with_reducible apply aAa (.tmp 2) (.tmp 93));refine wpList_store_row rfl 99 (.tmp 2) (.tmp 93) rfl w.heap.size (hd0.cells 20).toArray rfl rfl 99 Tryz.zeroCells99 d.out (aAc _) aAk (HD.one _ 20) ?_)
    |fail)
   refine bodyPost_ret (v:= .tuple #[.agg (hd0.cells 20).toArray,.int .u64 0,.int .i64 5]) (by exact aAJ Tryz.results90 _ _ w.heap.size 99 _ (0,0) _ _ _ rfl rfl rfl (setRow_heap _ _ _ _ _ (0,0) d.out) Tryz.underlying99 rfl (aAc _)) rfl ?_
   exact⟨rfl,below_setRow j.out (yR _) _⟩
  ·clear t
   go_wp2_with(first
    |((with_reducible apply aAb 93);refine aAh rfl 99 rfl _ aAt ?_)
    |((with_reducible apply aAa (.tmp 2) (.tmp 93));refine wpList_store_row rfl 99 (.tmp 2) (.tmp 93) rfl w.heap.size (hd0.cells 20).toArray rfl rfl 99 Tryz.zeroCells99 d.out (aAc _) aAk (HD.one _ 20) ?_)
    |fail)
   refine bodyPost_ret (v:= .tuple #[.agg (hd0.cells 20).toArray,.int .u64 0,.int .i64 5]) (by exact aAJ Tryz.results90 _ _ w.heap.size 99 _ (0,0) _ _ _ rfl rfl rfl (setRow_heap _ _ _ _ _ (0,0) d.out) Tryz.underlying99 rfl (aAc _)) rfl ?_
   exact⟨rfl,below_setRow j.out (yR _) _⟩
 rw[if_neg t]at a
 have d4:decide ((hdOf l).N 0<272)=false:=by simp;omega
 have h5:(hdOf l).N 0%8=0:=by omega
 have h6:(hdOf l).N 1%8=0:=by omega
 clear t
 by_cases g:endB (hdOf l)=false∨(n:Int)<endV (hdOf l)
 ·rw[if_pos g]at a
  subst a
  clear b base
  rw[if_neg (by decide),if_neg (by decide)]
  cases J:endB (hdOf l)with
  |false=>
   clear g
   go_wp2_with(first
    |((with_reducible apply aAb 93);refine aAh rfl 99 rfl _ aAt ?_)
    |((with_reducible apply aAa (.tmp 2) (.tmp 93));refine wpList_store_row rfl 99 (.tmp 2) (.tmp 93) rfl w.heap.size (hd0.cells 20).toArray rfl rfl 99 Tryz.zeroCells99 d.out (aAc _) aAk (HD.one _ 20) ?_)
    |fail)
   refine bodyPost_ret (v:= .tuple #[.agg (hd0.cells 20).toArray,.int .u64 0,.int .i64 2]) (by exact aAJ Tryz.results90 _ _ w.heap.size 99 _ (0,0) _ _ _ rfl rfl rfl (setRow_heap _ _ _ _ _ (0,0) d.out) Tryz.underlying99 rfl (aAc _)) rfl ?_
   exact⟨rfl,below_setRow j.out (yR _) _⟩
  |true=>
   have H:(n:Int)<endV (hdOf l):=by rcases g with g|g;rw[J]at g;cases g;exact g
   clear g E
   generalize endV (hdOf l)=V at*
   have R:=z.out
   have d8:decide ((n:Int)<V)=true:=by simp;omega
   go_wp2_with(first
    |((with_reducible apply aAb 93);refine aAh rfl 99 rfl _ aAt ?_)
    |((with_reducible apply aAa (.tmp 2) (.tmp 93));refine wpList_store_row rfl 99 (.tmp 2) (.tmp 93) rfl w.heap.size (hd0.cells 20).toArray rfl rfl 99 Tryz.zeroCells99 d.out (aAc _) aAk (HD.one _ 20) ?_)
    |fail)
   refine bodyPost_ret (v:= .tuple #[.agg (hd0.cells 20).toArray,.int .u64 0,.int .i64 2]) (by exact aAJ Tryz.results90 _ _ w.heap.size 99 _ (0,0) _ _ _ rfl rfl rfl (setRow_heap _ _ _ _ _ (0,0) d.out) Tryz.underlying99 rfl (aAc _)) rfl ?_
   exact⟨rfl,below_setRow j.out (yR _) _⟩
 rw[if_neg g]at a
 have J:endB (hdOf l)=true:=by
  cases J:endB (hdOf l)with
  |true=>rfl
  |false=>exact absurd (Or.inl J) g
 have H: ¬(n:Int)<endV (hdOf l):=fun h=>g (Or.inr h)
 clear g E
 generalize endV (hdOf l)=V at*
 have R:=z.out
 have d8:decide ((n:Int)<V)=false:=by simp;omega
 generalize tcode ((hdOf l).N 2) ((hdOf l).N 3) ((hdOf l).N 0) V=t1 at*
 generalize tcode ((hdOf l).N 4) ((hdOf l).N 5) ((hdOf l).N 0) V=t2 at*
 have L:=True.intro
 by_cases q:t1=0
 ·rw[if_neg (by simpa using q)]at a
  subst a q
  clear b base
  by_cases u:m=0
  ·rw[if_pos u,if_pos u]
   subst u
   go_wp2_with(first
    |(go_at_call 150;((with_reducible refine r.out.mono ?_);rintro e w' ⟨rfl,rfl⟩))
    |(go_at_call 150;((with_reducible refine D.out.mono ?_);rintro e w' ⟨rfl,rfl⟩))
    |((with_reducible apply aAb 95);refine wpList_load_row rfl 99 (.tmp 5) rfl w2.heap.size rfl 99 ((hdOf l).cells 20).toArray (0,0) _ k.out Tryz.underlying99 rfl (aAc _) ?_)
    |((with_reducible apply aAa (.tmp 2) (.tmp 95));refine wpList_store_row rfl 99 (.tmp 2) (.tmp 95) rfl w.heap.size ((hdOf l).cells 20).toArray rfl rfl 99 Tryz.zeroCells99 d.out (aAc _) aAk (HD.one _ 20) ?_)
    |fail)
   refine bodyPost_ret (v:= .tuple #[.agg ((hdOf l).cells 20).toArray,.int .u64 dp,.int .i64 0]) (by exact aAJ Tryz.results90 _ _ w.heap.size 99 _ (0,0) _ _ _ rfl rfl rfl (setRow_heap _ _ _ _ _ (0,0) d.out) Tryz.underlying99 rfl (aAc _)) rfl ?_
   exact⟨rfl,below_setRow j.out (yR _) _⟩
  ·rw[if_neg u,if_neg u]
   have dz:(m !=0)=true:=by simp[u]
   go_wp2_with(first
    |(go_at_call 150;((with_reducible refine r.out.mono ?_);rintro e w' ⟨rfl,rfl⟩))
    |(go_at_call 150;((with_reducible refine D.out.mono ?_);rintro e w' ⟨rfl,rfl⟩))
    |((with_reducible apply aAb 93);refine aAh rfl 99 rfl _ aAt ?_)
    |((with_reducible apply aAa (.tmp 2) (.tmp 93));refine wpList_store_row rfl 99 (.tmp 2) (.tmp 93) rfl w.heap.size (hd0.cells 20).toArray rfl rfl 99 Tryz.zeroCells99 d.out (aAc _) aAk (HD.one _ 20) ?_)
    |fail)
   refine bodyPost_ret (v:= .tuple #[.agg (hd0.cells 20).toArray,.int .u64 0,.int .i64 m]) (by exact aAJ Tryz.results90 _ _ w.heap.size 99 _ (0,0) _ _ _ rfl rfl rfl (setRow_heap _ _ _ _ _ (0,0) d.out) Tryz.underlying99 rfl (aAc _)) rfl ?_
   exact⟨rfl,below_setRow j.out (yR _) _⟩
 ·rw[if_pos q]at a
  subst a
  clear b base
  rw[if_neg q,if_neg q]
  have dz:(m !=0)=true:=by simp[q]
  have ae:(m==0)=false:=by simp[q]
  go_wp2_with(first
   |(go_at_call 150;((with_reducible refine r.out.mono ?_);rintro e w' ⟨rfl,rfl⟩))
   |((with_reducible apply aAb 93);refine aAh rfl 99 rfl _ aAt ?_)
   |((with_reducible apply aAa (.tmp 2) (.tmp 93));refine wpList_store_row rfl 99 (.tmp 2) (.tmp 93) rfl w.heap.size (hd0.cells 20).toArray rfl rfl 99 Tryz.zeroCells99 d.out (aAc _) aAk (HD.one _ 20) ?_)
   |fail)
  refine bodyPost_ret (v:= .tuple #[.agg (hd0.cells 20).toArray,.int .u64 0,.int .i64 m]) (by exact aAJ Tryz.results90 _ _ w.heap.size 99 _ (0,0) _ _ _ rfl rfl rfl (setRow_heap _ _ _ _ _ (0,0) d.out) Tryz.underlying99 rfl (aAc _)) rfl ?_
  exact⟨rfl,below_setRow j.out (yR _) _⟩
theorem aFa (A:Option Addr)(l:List Int)(n c:Nat)(w:World)(d:Bytes w A l)(e:l.length=n)(g:n≤1000000)(f:n≤c):
 Calls Tryz.prog 90 #[.slice A n c] w (RTold (if hcode l n=0 then hdOf l else hd0) (if hcode l n=0 then Ob.u8 l 248 else 0) (hcode l n) w):=by
 by_cases a:n<272
 ·rw[show hcode l n=22 from if_pos a,if_neg (by decide),if_neg (by decide)]
  exact aHc A n c w a
 by_cases h2:magicB l=false
 ·rw[show hcode l n=6 by unfold hcode;rw[if_neg a,if_pos h2],if_neg (by decide),if_neg (by decide)]
  exact aHd A l n c w d e (by omega) f h2
 ·have b:magicB l=true:=by simpa using h2
  rw[show hcode l n=fcode (hdOf l) n by unfold hcode;rw[if_neg a,if_neg h2]]
  exact aHe A l n c w d e (by omega) g f b
end Gt
namespace Yd
open Bytes8 Blk8 Own8 OwnE Ob Kf Yc
abbrev entV (s r m:Int)(K:Nat→Int)(x:Int)(A:Option Addr)(n c:Nat):Value:= .agg #[.int .u64 s,.int .u64 r,.int .u64 m,.int .u8 (K 0),.int .u8 (K 1),.int .u8 (K 2),.int .u8 (K 3),.int .u8 (K 4),.int .u8 (K 5),.int .u8 (K 6),.int .u8 (K 7),.int .u8 (K 8),.int .u8 (K 9),.int .u8 (K 10),.int .u8 (K 11),.int .u8 (K 12),.int .u8 (K 13),.int .u8 (K 14),.int .u8 (K 15),.int .u64 x,.slice A n c]
abbrev entC (T:TypeId)(s r m:Int)(K:Nat→Int)(x:Int)(A:Option Addr)(n c:Nat):Obj:= .cells #[.int .u64 s,.int .u64 r,.int .u64 m,.int .u8 (K 0),.int .u8 (K 1),.int .u8 (K 2),.int .u8 (K 3),.int .u8 (K 4),.int .u8 (K 5),.int .u8 (K 6),.int .u8 (K 7),.int .u8 (K 8),.int .u8 (K 9),.int .u8 (K 10),.int .u8 (K 11),.int .u8 (K 12),.int .u8 (K 13),.int .u8 (K 14),.int .u8 (K 15),.int .u64 x,.slice A n c] T
def entL (s r m:Int)(K:Nat→Int)(x:Int)(A:Option Addr)(n c:Nat):List Value:=[.int .u64 s,.int .u64 r,.int .u64 m,.int .u8 (K 0),.int .u8 (K 1),.int .u8 (K 2),.int .u8 (K 3),.int .u8 (K 4),.int .u8 (K 5),.int .u8 (K 6),.int .u8 (K 7),.int .u8 (K 8),.int .u8 (K 9),.int .u8 (K 10),.int .u8 (K 11),.int .u8 (K 12),.int .u8 (K 13),.int .u8 (K 14),.int .u8 (K 15),.int .u64 x,.slice A n c]
theorem aPF {w:World}{g:Nat}{T:TypeId}{s r m x:Int}{K:Nat→Int}{A:Option Addr}{n c:Nat}(h:Blk w g (entL s r m K x A n c) T)(b:IdOk K):Bytes w (some ⟨g,3,none⟩) (idL K):=by
 refine⟨aHi b,fun i hi=>⟨g,3,rfl,h.lt,?_⟩⟩
 have a:i<16:=hi
 refine h.cell ?_
 unfold entL idL
 rcases i with _|_|_|_|_|_|_|_|_|_|_|_|_|_|_|_|i
 all_goals first|rfl|omega
def entB (s r m:Int)(K:Nat→Int)(x:Int)(ps:List Int):List Int:=nums [s,r,m]++idL K++nums [x]++nums ps
theorem aDC (s r m:Int)(K:Nat→Int)(x:Int)(f g:Nat→Int)(k:Nat):(entB s r m K x (prs f g k)).length=48+16*k:=by
 unfold entB
 rw[List.length_append,List.length_append,List.length_append,aDv,nums_len,nums_len]
 rfl
abbrev arrV (x:Int)(A:Option Addr)(n c:Nat):Value:= .agg #[.int .u64 x,.slice A n c]
abbrev arrC (T:TypeId)(x:Int)(A:Option Addr)(n c:Nat):Obj:= .cells #[.int .u64 x,.slice A n c] T
def arrB (x:Int)(l:List Int):List Int:=nums [x]++nums l
abbrev InsideA (b:Nat)(W:World)(x:Int)(A:Option Addr)(n c:Nat):Prop:=W.cell? ⟨b,0,none⟩=some (.int .u64 x)∧W.cell? ⟨b,1,none⟩=some (.slice A n c)
end Yd
namespace Yk
open Bytes8 Blk8 Own8 OwnE Ob Oc Od Oe Rows2 Kf Yc Yd
def NumsTold (ls:List Int)(z:Nat)(W:World)(e:Ending)(w':World):Prop:= ∃A c,e= .returned (.slice A z c)∧Own w' W.heap.size A z c (nums ls)∧Below W.heap.size W w'
theorem aFZ (a:List Int)(k z:Nat)(N:Array Value)(i:(a.map (Value.int .u64)).toArray=N)(W:World)(g:Nat)(d:W.heap.size=g)(j:I64 a)(l:a.length=k)(b:k≤1000)(f:8*k=z):
 Calls Tryz.prog 124 #[.slice (some ⟨g,0,none⟩) k k] (W.alloc (.cells N 27)) (NumsTold a z W):=by
 subst i d f
 have h:=aEj W.heap.size k k a 27 _ (Blk.new W _ _) j l b
 exact h.mono fun e w' ⟨A,c,h1,h2,h3⟩=>⟨A,c,h1,Own.base h2 (by simp),((Below.refl W.heap.size W).alloc (yR _) _).trans (h3.mono (by simp))⟩
theorem aBW (a:List Int)(k z:Nat)(N:Array Value)(h:(a.map (Value.int .u64)).toArray=N)(W:World)(g:Nat)(d:W.heap.size=g)(i:I64 a)(j:a.length=k)(b:k≤1000)(f:8*k=z):
 Calls Tryz.prog 124 #[.slice (some ⟨g,0,none⟩) k k] (W.alloc (.cells N 27)).drew (NumsTold a z W):=
 (aFZ a k z N h W.drew g d i j b f).mono fun e w' ⟨A,c,h1,h2,h3⟩=>⟨A,c,h1,h2,(Below.refl W.heap.size W).drew.trans h3⟩
theorem aKc {x:Int}(h:0≤x∧x≤18446744073709551615):I64 [x]:=by intro v a;simp at a;subst a;exact h
theorem aKd {x y:Int}(h:0≤x∧x≤18446744073709551615)(b:0≤y∧y≤18446744073709551615):I64 [x,y]:=by intro v a;simp at a;rcases a with rfl|rfl<;>assumption
theorem aFb (x:Int)(A:Option Addr)(n c:Nat)(f:Nat→Int)(w:World)(E:InInts .u64 w A n f)(hn:n≤50000)(hx:0≤x∧x≤18446744073709551615):
 Calls Tryz.prog 137 #[arrV x A n c] w (Owned (objB 6 (arrB x (ints f n))) (16+(8+8*n)+padN (8+8*n)) w):=by
 have HI:=yH E
 have b0:=yH ((Below.refl w.heap.size w).alloc (yR _) (arrC 198 x A n c))
 have d:=yH (show Blk (w.alloc (arrC 198 x A n c)) w.heap.size [.int .u64 x,.slice A n c] 198 from Blk.new w _ _)
 have N:=d.out.drew.cell (i:=0) rfl
 have Y:=d.out.drew.cell (i:=1) rfl
 have H:=yH (d.out.alloc (.cells #[.int .u64 x] 27)).drew
 have z:=H.out.cell (i:=0) rfl
 have s:=H.out.cell (i:=1) rfl
 have v:=yH fun(W:World) (g:Nat) (hg:W.heap.size=g)=>aBW [x] 1 8 _ rfl W g hg (aKc hx) rfl (by decide) rfl
 dsimp only[List.map]at v
 have u:=yH fun(W:World) (hb:Below w.heap.size w W)=>rnums_in A n c f W (HI.out.below hb) (by omega)
 have C:=yH fun(B:Option Addr) (cb:Nat) (W:World) (base:Nat) (ho:Own W base B (8+8*n) cb (nums [x]++nums (ints f n)))=>aCQ 6 B _ (8+8*n) cb W (by decide) ho.bytes ho.2.1 (by omega)
 unfold Owned at C
 unfold NumsTold at v
 unfold arrB
 generalize padN (8+8*n)=pn at*
 clear E
 go_enter Tryz.func137,Tryz.ntmps137
 go_wp2
 go_region_held3 (fun W=>InsideA w.heap.size W x A n c) (first|(with_reducible exact⟨N,Y⟩)|(with_reducible exact⟨z,s⟩)|(with_reducible exact⟨q0,X⟩)|(with_reducible exact⟨r0,r1⟩)|(with_reducible exact⟨Z,s1⟩)|(with_reducible exact⟨V,t1⟩)|go_keep) (first
  |(refine aAg (o:=⟨some 10,_,_,_,_,_⟩) rfl (.tmp 6) (.tmp 9) rfl (w.heap.size+1) A1 8 c1 (nums [x]) rfl O1.out A2 (8*n) c2 (nums (ints f n)) rfl L.out.bytes (aFP f n) (by omega) ?_;intro A3 c3 w3 m p;have O3:=yH m;have D:=yH (J.out.trans p);have r:=yH (d.out.below D.out (Nat.lt_succ_self _));have Z:=r.out.cell (i:=0) rfl;have s1:=r.out.cell (i:=1) rfl;clear m p)
  |(go_at_call 124;(with_reducible refine(v.out _ _ (by simp)).mono ?_);rintro e w1 ⟨A1,c1,rfl,k,h⟩;have t:=yH (Own.base k (b2:=w.heap.size+1) (by simp));have q:=yH (show Below (w.heap.size+1) (w.alloc (arrC 198 x A n c)) w1 from Below.mono h (by simp));have F:=yH (d.out.below q.out (Nat.lt_succ_self _));have q0:=F.out.cell (i:=0) rfl;have X:=F.out.cell (i:=1) rfl;clear k h)
  |(go_at_call 124;(with_reducible refine(u.out w1 (b0.out.trans (q.out.mono (Nat.le_succ _)))).mono ?_);rintro e w2 ⟨A2,c2,rfl,l,b⟩;have L:=yH l;have O1:=yH (t.out.kept b (yR _));have J:=yH (q.out.trans (b.mono (by have:=q.out.size;simpa using this)));have G:=yH (d.out.below J.out (Nat.lt_succ_self _));have r0:=G.out.cell (i:=0) rfl;have r1:=G.out.cell (i:=1) rfl;clear l b)
  |(go_at_call 127;(with_reducible refine(C.out _ _ _ _ O3.out).mono ?_);rintro e w4 ⟨A4,M,rfl,j,a⟩;have O4:=yH j;have R:=yH a;have I:=yH (r.out.below a r.out.lt);have V:=I.out.cell (i:=0) rfl;have t1:=I.out.cell (i:=1) rfl;clear j a))
 go_wp2
 go_ret
 have y:=b0.out.trans (D.out.mono (Nat.le_succ _))
 exact⟨A4,M,rfl,Own.base O4.out y.size,y.trans (R.out.mono y.size)⟩
theorem aDm (u:Int)(A:Option Addr)(n c:Nat)(f g:Nat→Int)(w:World)(h:u=4∨u=5)(hi:In2 w A n f g)(hn:n≤50000):
 Calls Tryz.prog 74 #[.int .i64 u,.slice A n c] w (Owned (objB u (nums (prs f g n))) (16+16*n+padN (16*n)) w):=by
 have HI:=yH hi
 have HP:=yH fun(B:Option Addr) (cb:Nat) (W:World) (v:Own W w.heap.size B (16*n) cb (nums (prs f g n)))=>aCQ u B _ (16*n) cb W (by omega) v.bytes v.2.1 (by omega)
 unfold Owned at HP
 have R:=yH fun k:Nat=>aIX f g k
 generalize padN (16*n)=pn at*
 clear hi
 rcases h with rfl|rfl
 all_goals
  go_enter Tryz.func74,Tryz.ntmps74
  go_wp2
  go_loopw [5,6] (fun z i wr=> ∃(k:Nat) (H:Option Addr) (G:Nat),k≤n∧z= .slice H (16*k) G∧i= .int .i64 (k:Int)∧Hid (Own wr w.heap.size H (16*k) G (nums (prs f g k)))∧Hid (Below w.heap.size w wr)) (fun _ i _=>n-(intOf i).toNat)
  case atStart=>exact⟨0,none,0,Nat.zero_le _,rfl,rfl,Own.nil w _ (yR _),yH (Below.refl _ _)⟩
  case round=>
   obtain⟨k,H,G,hk,rfl,rfl,v,m⟩:=hrel
   have E:=m.out.size
   by_cases I:k<n
   ·obtain⟨b,a,rfl,d,q,t,N,Z⟩:=HI.out k I
    have c0:=(m.out.cell (p:=⟨b,a+k*2,none⟩) d).trans q
    have V:=(m.out.cell (p:=⟨b,a+k*2+1,none⟩) d).trans t
    have s:b<wr.heap.size:=yL d E
    have y:=yH d
    have ab:=yH (R.out k)
    clear q t d
    have J:=yH fun(W:World) (g1:Nat) (hg:W.heap.size=g1)=>aBW [f k,g k] 2 16 _ rfl W g1 hg (aKd N Z) rfl (by decide) rfl
    dsimp only[List.map]at J
    unfold NumsTold at J
    generalize f k=X at*
    generalize g k=Y at*
    have u0:wr.drew.cell? ⟨b,a+k*2,none⟩=some (.int .u64 X):=c0
    have u1:wr.drew.cell? ⟨b,a+k*2+1,none⟩=some (.int .u64 Y):=V
    have ad:(0:Int)≤(k:Int):=by omega
    have ae:(k:Int)<(n:Int):=by omega
    have r:=yH s
    go_wp2
    go_region_held3 (fun W=>W.cell? ⟨b,a+k*2,none⟩=some (.int .u64 X)∧W.cell? ⟨b,a+k*2+1,none⟩=some (.int .u64 Y)) (first|(with_reducible exact⟨u0,u1⟩)|(with_reducible exact⟨q0,q1⟩)|(with_reducible exact⟨r0,r1⟩)|go_keep) (first
     |(go_at_call 124;(with_reducible refine(J.out _ _ (by simp)).mono ?_);rintro e w2 ⟨A2,c2,rfl,x,j⟩;have O2:=yH x;have O3:=yH (v.out.kept j (yR _));have B2:=yH (m.out.trans (j.mono E));have q0:=(j.cell (p:=⟨b,a+k*2,none⟩) r.out).trans u0;have q1:=(j.cell (p:=⟨b,a+k*2+1,none⟩) r.out).trans u1;clear x j)
     |(refine aAg (o:=⟨some 32,_,_,_,_,_⟩) rfl (.tmp 19) (.tmp 31) rfl w.heap.size H (16*k) G _ rfl O3.out A2 16 c2 (nums [X,Y]) rfl O2.out.bytes (by rw[nums_len];rfl) (by omega) ?_;intro A3 c3 w3 D l;have M:=yH D;have L:=yH (B2.out.trans l);have r0:=(l.cell (p:=⟨b,a+k*2,none⟩) y.out).trans q0;have r1:=(l.cell (p:=⟨b,a+k*2+1,none⟩) y.out).trans q1;clear D l))
    all_goals
     go_wp2
     go_roundw
     case rel=>
      refine⟨k+1,A3,c3,by omega,rfl,by go_num,?_,L⟩
      rw[ab.out]
      exact M
     case measure=>simp[intOf];omega
   ·obtain rfl:k=n:=by omega
    go_wp2_with(go_at_call 127;(with_reducible refine(HP.out _ _ _ v.out).mono ?_);rintro e w5 ⟨A5,c5,rfl,F,C⟩;have ac:=yH F;have aa:=yH C;clear F C)
    go_ret
    exact⟨A5,c5,rfl,Own.base ac.out m.out.size,m.out.trans (aa.out.mono m.out.size)⟩
theorem aFc (s r m:Int)(K:Nat→Int)(x:Int)(A:Option Addr)(n c:Nat)(f g:Nat→Int)(w:World)(hi:In2 w A n f g)(hn:n≤50000)(hK:IdOk K)(hs:0≤s∧s≤18446744073709551615)(hr:0≤r∧r≤18446744073709551615)(hm:0≤m∧m≤18446744073709551615)(hx:0≤x∧x≤18446744073709551615):
 Calls Tryz.prog 80 #[entV s r m K x A n c] w (Owned (objB 3 (entB s r m K x (prs f g n))) (16+(48+16*n)+padN (48+16*n)) w):=by
 have HI:=yH hi
 have b0:=yH ((Below.refl w.heap.size w).alloc (yR _) (entC 179 s r m K x A n c))
 have C:=yH (show Blk (w.alloc (entC 179 s r m K x A n c)) w.heap.size (entL s r m K x A n c) 179 from Blk.new w _ _)
 have aa:I64 [s,r,m]:=by intro v hv;simp at hv;rcases hv with rfl|rfl|rfl<;>assumption
 have i0:=C.out.drew.cell (i:=0) rfl
 have i1:=C.out.drew.cell (i:=1) rfl
 have i2:=C.out.drew.cell (i:=2) rfl
 have PB:=yH (C.out.alloc (.cells #[.int .u64 s,.int .u64 r,.int .u64 m] 27)).drew
 have am:=PB.out.cell (i:=0) rfl
 have ab:=PB.out.cell (i:=1) rfl
 have ak:=PB.out.cell (i:=2) rfl
 have u:=yH (Nat.lt_succ_self w.heap.size)
 have HN:=yH fun(W:World) (g:Nat) (hg:W.heap.size=g)=>aBW [s,r,m] 3 24 _ rfl W g hg aa rfl (by decide) rfl
 have E:=yH fun(W:World) (g:Nat) (hg:W.heap.size=g)=>aFZ [x] 1 8 _ rfl W g hg (aKc hx) rfl (by decide) rfl
 dsimp only[List.map]at HN E
 unfold NumsTold at HN E
 have aA:=yH fun k:Nat=>show entB s r m K x (prs f g (k+1))=entB s r m K x (prs f g k)++nums [f k,g k]by unfold entB;rw[aIX];simp
 have HP:=yH fun(B:Option Addr) (cb:Nat) (W:World) (ho:Own W (w.heap.size+1) B (48+16*n) cb (entB s r m K x (prs f g n)))=>aCQ 3 B _ (48+16*n) cb W (by decide) ho.bytes ho.2.1 (by omega)
 unfold Owned at HP
 have y:nums [s,r,m]++idL K++nums [x]=entB s r m K x (prs f g 0):=by unfold entB;rw[aNR,aMS,List.append_nil]
 have ah:=yH y
 generalize padN (48+16*n)=pn at*
 clear hi y aa
 go_enter Tryz.func80,Tryz.ntmps80
 go_wp2
 go_region_held3 (fun W=>W.cell? ⟨w.heap.size,0,none⟩=some (.int .u64 s)∧W.cell? ⟨w.heap.size,1,none⟩=some (.int .u64 r)∧W.cell? ⟨w.heap.size,2,none⟩=some (.int .u64 m)) (first|(with_reducible exact⟨i0,i1,i2⟩)|(with_reducible exact⟨am,ab,ak⟩)|(with_reducible exact⟨q0,q1,M⟩)|(with_reducible exact⟨r0,r1,r2⟩)|go_keep) (first
  |(go_at_call 124;(with_reducible refine(HN.out _ _ (by simp)).mono ?_);rintro e w1 ⟨A1,c1,rfl,R,ag⟩;have O1:=yH (Own.base R (b2:=w.heap.size+1) (by simp));have B1:=yH (show Below (w.heap.size+1) (w.alloc (entC 179 s r m K x A n c)) w1 from Below.mono ag (by simp));have R1:=yH (C.out.below B1.out u.out);have ao:=yH (aPF R1.out hK);have q0:=R1.out.cell (i:=0) rfl;have q1:=R1.out.cell (i:=1) rfl;have M:=R1.out.cell (i:=2) rfl;clear R ag)
  |(refine aAg (o:=⟨some 15,_,_,_,_,_⟩) rfl (.tmp 12) (.tmp 14) rfl (w.heap.size+1) A1 24 c1 (nums [s,r,m]) rfl O1.out (some ⟨w.heap.size,3,none⟩) 16 16 (idL K) rfl ao.out rfl (by decide) ?_;intro A2 c2 w2 N Z;have ax:=yH N;have G:=yH (B1.out.trans Z);have R2:=yH (C.out.below G.out u.out);have r0:=R2.out.cell (i:=0) rfl;have r1:=R2.out.cell (i:=1) rfl;have r2:=R2.out.cell (i:=2) rfl;have aE:=R2.out.cell (i:=19) rfl;clear N Z))
 clear i0 i1 i2 am ab ak q0 q1 M r0 r1 r2
 go_wp2_with(first
  |(go_at_call 124;(with_reducible refine(E.out _ _ (by simp)).mono ?_);rintro e w3 ⟨A3,c3,rfl,V,D⟩;have O3:=yH V;have af:=yH (ax.out.kept D (yR _));have aq:=yH (G.out.trans (D.mono (by have:=G.out.size;simpa using this)));clear V D)
  |(at_builtin;refine aAd rfl (.tmp 16) (.tmp 20) rfl (w.heap.size+1) A2 40 c2 _ rfl af.out A3 8 c3 (nums [x]) rfl O3.out.bytes (by rw[nums_len];rfl) (by decide) ?_;intro A4 c4 w4 H al;rw[ah.out]at H;have ap:=yH H;have ad:=yH (aq.out.trans al);have R4:=yH (C.out.below ad.out u.out);have aG:=R4.out.cell (i:=20) rfl;clear H al))
 go_loopw [3,4] (fun z i wr=> ∃(k:Nat) (A':Option Addr) (c':Nat),k≤n∧z= .slice A' (48+16*k) c'∧i= .int .i64 (k:Int)∧Hid (Own wr (w.heap.size+1) A' (48+16*k) c' (entB s r m K x (prs f g k)))∧Hid (Below (w.heap.size+1) (w.alloc (entC 179 s r m K x A n c)) wr)) (fun _ i _=>n-(intOf i).toNat)
 case atStart=>exact⟨0,A4,c4,Nat.zero_le _,rfl,rfl,ap,ad⟩
 case round=>
  obtain⟨k,A',c',hk,rfl,rfl,ho,hb⟩:=hrel
  have Bw:=yH (b0.out.trans (hb.out.mono (Nat.le_succ _)))
  have av:w.heap.size+1≤wr.heap.size:=by have:=hb.out.size;simpa using this
  have Rr:=yH (C.out.below hb.out u.out)
  have ae:=Rr.out.cell (i:=20) rfl
  by_cases ay:k<n
  ·obtain⟨b,a,rfl,t,I,L,az,ar⟩:=HI.out k ay
   have c0:=(Bw.out.cell (p:=⟨b,a+k*2,none⟩) t).trans I
   have ai:=(Bw.out.cell (p:=⟨b,a+k*2+1,none⟩) t).trans L
   have q:b<wr.heap.size:=by omega
   have h:b<w.heap.size+1:=by omega
   have aj:=yH h
   have aB:=yH (aA.out k)
   clear I L t h
   have F:=yH fun(W:World) (g1:Nat) (hg:W.heap.size=g1)=>aBW [f k,g k] 2 16 _ rfl W g1 hg (aKd az ar) rfl (by decide) rfl
   dsimp only[List.map]at F
   unfold NumsTold at F
   generalize f k=X at*
   generalize g k=Y at*
   have u0:wr.drew.cell? ⟨b,a+k*2,none⟩=some (.int .u64 X):=c0
   have u1:wr.drew.cell? ⟨b,a+k*2+1,none⟩=some (.int .u64 Y):=ai
   have u2:wr.drew.cell? ⟨w.heap.size,20,none⟩=some (.slice (some ⟨b,a,none⟩) n c):=ae
   have Na:=yH ((Below.refl wr.heap.size wr).alloc (yR _) (.cells #[.int .u64 X,.int .u64 Y] 27)).drew
   have v0:=(Na.out.cell (p:=⟨b,a+k*2,none⟩) q).trans c0
   have v1:=(Na.out.cell (p:=⟨b,a+k*2+1,none⟩) q).trans ai
   have v2:=(Na.out.cell (p:=⟨w.heap.size,20,none⟩) (by show w.heap.size<wr.heap.size;omega)).trans ae
   have aD:(0:Int)≤(k:Int):=by omega
   have aF:(k:Int)<(n:Int):=by omega
   have J:=yH q
   go_wp2
   go_region_held3 (fun W=>W.cell? ⟨b,a+k*2,none⟩=some (.int .u64 X)∧W.cell? ⟨b,a+k*2+1,none⟩=some (.int .u64 Y)∧W.cell? ⟨w.heap.size,20,none⟩=some (.slice (some ⟨b,a,none⟩) n c)) (first|(with_reducible exact⟨u0,u1,u2⟩)|(with_reducible exact⟨v0,v1,v2⟩)|(with_reducible exact⟨q0,q1,M⟩)|(with_reducible exact⟨r0,r1,r2⟩)|go_keep) (first
    |(go_at_call 124;(with_reducible refine(F.out _ _ (by simp)).mono ?_);rintro e w5 ⟨A5,c5,rfl,l,d⟩;have O5:=yH l;have O6:=yH (ho.out.kept d (yR _));have B5:=yH (hb.out.trans (d.mono av));have q0:=(d.cell (p:=⟨b,a+k*2,none⟩) J.out).trans u0;have q1:=(d.cell (p:=⟨b,a+k*2+1,none⟩) J.out).trans u1;have M:=(d.cell (p:=⟨w.heap.size,20,none⟩) (by show w.heap.size<wr.heap.size;omega)).trans u2;clear l d)
    |(refine aAg (o:=⟨some 44,_,_,_,_,_⟩) rfl (.tmp 29) (.tmp 43) rfl (w.heap.size+1) A' (48+16*k) c' _ rfl O6.out A5 16 c5 (nums [X,Y]) rfl O5.out.bytes (by rw[nums_len];rfl) (by omega) ?_;intro A7 c7 w7 ac j;have aC:=yH ac;have an:=yH (B5.out.trans j);have r0:=(j.cell (p:=⟨b,a+k*2,none⟩) aj.out).trans q0;have r1:=(j.cell (p:=⟨b,a+k*2+1,none⟩) aj.out).trans q1;have r2:=(j.cell (p:=⟨w.heap.size,20,none⟩) u.out).trans M;clear ac j))
   all_goals
    go_wp2
    go_roundw
    case rel=>
     refine⟨k+1,A7,c7,by omega,rfl,by go_num,?_,an⟩
     rw[aB.out]
     exact aC
    case measure=>simp[intOf];omega
  ·obtain rfl:k=n:=by omega
   go_wp2_with(go_at_call 127;(with_reducible refine(HP.out _ _ _ ho.out).mono ?_);rintro e w5 ⟨A5,c5,rfl,l,d⟩;have aw:=yH l;have au:=yH d;clear l d)
   go_ret
   exact⟨A5,c5,rfl,Own.base aw.out Bw.out.size,Bw.out.trans (au.out.mono Bw.out.size)⟩
end Yk
namespace Ye
open Bytes8 Blk8 Own8 OwnE Ob Oc Og Oi Rows2 Kf Yc Yp
def Bodied2 (l:List Int)(a:Nat)(k:Int)(ah ea:Nat)(w:World)(e:Ending)(w':World):Prop:=
 ∃B m cb,e= .returned (.tuple #[.slice B m cb,.int .i64 (ecode l a k ah ea)])∧Below w.heap.size w w'∧(ecode l a k ah ea=0→Bytes w' B (bodyL l a)∧(bodyL l a).length=m∧m≤cb∧cb≤maxLen∧m≤1000000)
theorem aMr (A:Option Addr)(l:List Int)(n f a g d:Nat)(k:Int)(w:World)(z:Bytes w A l)(B:l.length=n)(hn:n≤1000000)(Y:n≤f)(E:f≤maxLen)(Z:a≤18446744073709551615)(aa:g≤1000)(ab:d≤1000)(ac:0<d)(N:g%d=0):
 Calls Tryz.prog 184 #[.slice A n f,.int .u64 (a:Int),.int .i64 k,.int .i64 (g:Int),.int .i64 (d:Int)] w (Bodied2 l a k g d w):=by
 have r:=yH (aIQ A l n f a w z B hn Y E Z)
 unfold FrTold at r
 unfold Bodied2
 have c:ecode l a k g d=if code l a≠0 then code l a else if kindL l a≠k then 4 else if(bodyL l a).length<g+d∨(bodyL l a).length%d≠0 then 5 else 0:=rfl
 by_cases G:code l a≠0
 ·rw[if_pos G]at c
  rw[c]
  clear c
  generalize code l a=cd at*
  generalize kindL l a=kd at*
  generalize sizeL l a=s at*
  have HX:Hid (cd≠0):=yH G
  clear z B
  go_enter Tryz.func184,Tryz.ntmps184
  go_wp2_with(go_at_call 20;(with_reducible refine r.out.mono ?_);rintro e w2 ⟨rfl,b⟩;have i:=yH b;clear b)
  go_ret2
  exact⟨none,0,0,rfl,i.out.alloc i.out.size _,fun h=>absurd h HX.out⟩
 have H:code l a=0:=by omega
 obtain⟨m,hs,p,X,j,_⟩:=aDh B H
 rw[if_neg G,p]at c
 have x:sizeL l a=16+(m:Int):=by omega
 rw[H,x]at r
 by_cases h2:kindL l a≠k
 ·rw[if_pos h2]at c
  rw[c]
  generalize kindL l a=kd at*
  clear z B c hs x p j G H
  go_enter Tryz.func184,Tryz.ntmps184
  go_wp2_with(go_at_call 20;(with_reducible refine r.out.mono ?_);rintro e w2 ⟨rfl,b⟩;have i:=yH b;clear b)
  go_ret2
  exact⟨none,0,0,rfl,i.out.alloc i.out.size _,fun h=>absurd h (by decide)⟩
 have y:kindL l a=k:=by omega
 rw[if_neg h2]at c
 rw[y]at r
 have hcut:=aHN A n f (a+16) (a+16+m) ((a:Int)+16) ((a:Int)+(16+(m:Int))) (by omega) (by omega) (by omega) (by omega)
 have D:=yH (Bytes.cut z f (a+16) m (by omega))
 rw[←j]at D
 rw[show a+16+m-(a+16)=m by omega]at hcut
 have t:m≤f-(a+16)∧f-(a+16)≤maxLen:=by omega
 generalize f-(a+16)=cb at*
 generalize cutA A f (a+16)=C at*
 have u:=yH t
 have I:=yH p
 have ad:a+16+m≤1000000:=by omega
 unfold maxLen at E
 clear z B hs x p j G H h2 y t
 by_cases h3:m<g+d
 ·rw[if_pos (Or.inl h3)]at c
  rw[c]
  have J:(m:Int)-(g:Int)<(d:Int):=by omega
  clear c
  go_enter Tryz.func184,Tryz.ntmps184
  go_wp2_with(go_at_call 20;(with_reducible refine r.out.mono ?_);rintro e w2 ⟨rfl,b⟩;have i:=yH b;clear b)
  go_ret2
  exact⟨none,0,0,rfl,i.out.alloc i.out.size _,fun h=>absurd h (by decide)⟩
 have J: ¬(m:Int)-(g:Int)<(d:Int):=by omega
 obtain⟨q,L⟩: ∃q,g=d*q:=⟨g/d,by have:=Nat.div_add_mod g d;omega⟩
 have F:(m-g)%d=m%d:=by
  subst L
  have:m=(m-d*q)+d*q:=by omega
  conv=>rhs;rw[this,Nat.add_mul_mod_self_left]
 have v:((m:Int)-(g:Int)).tmod (d:Int)=((m%d:Nat):Int):=by
  rw[show(m:Int)-(g:Int)=((m-g:Nat):Int)by omega,Int.tmod_eq_emod_of_nonneg (by omega),←F]
  omega
 have M: ¬(d:Int)=0:=by omega
 clear L F
 by_cases h4:m%d=0
 ·rw[if_neg (by omega)]at c
  rw[c]
  rw[h4]at v
  clear c
  go_enter Tryz.func184,Tryz.ntmps184
  go_wp2_with(go_at_call 20;(with_reducible refine r.out.mono ?_);rintro e w2 ⟨rfl,b⟩;have i:=yH b;clear b)
  go_ret2
  exact⟨C,m,cb,rfl,i.out.alloc i.out.size _,fun _=>⟨D.out.below (i.out.alloc i.out.size _) (yR _),I.out,u.out.1,u.out.2,by omega⟩⟩
 ·rw[if_pos (Or.inr h4)]at c
  rw[c]
  obtain⟨R,V⟩: ∃R:Int,R=((m%d:Nat):Int):=⟨_,rfl⟩
  rw[←V]at v
  have o: ¬R=0:=by omega
  have h5:(R==0)=false:=by simpa using o
  have h6:(R !=0)=true:=by simpa using o
  have h7:decide (R=0)=false:=by simpa using o
  clear c V h4
  go_enter Tryz.func184,Tryz.ntmps184
  go_wp2_with(go_at_call 20;(with_reducible refine r.out.mono ?_);rintro e w2 ⟨rfl,b⟩;have i:=yH b;clear b)
  ·go_ret2
   exact⟨none,0,0,rfl,i.out.alloc i.out.size _,fun h=>absurd h (by decide)⟩
  all_goals (rename_i hx;trace_state;simp at hx;exact absurd hx o)
theorem aIc (A:Option Addr)(l:List Int)(n b a d c:Nat)(k o p:Int)(w:World)(q:Bytes w A l)(r:l.length=n)(s:n≤1000000)(t:n≤b)(g:b≤maxLen)(u:a≤18446744073709551615)(f:d≤1000)(i:c≤1000)(j:0<c)(e:d%c=0)(h:o=(d:Int))(m:p=(c:Int)):
 Calls Tryz.prog 184 #[.slice A n b,.int .u64 (a:Int),.int .i64 k,.int .i64 o,.int .i64 p] w (Bodied2 l a k d c w):=by
 subst h m
 exact aMr A l n b a d c k w q r s t g u f i j e
theorem aFd (A:Option Addr)(l:List Int)(n a i:Nat)(z:Int)(w:World)(c:Bytes w A l)(d:l.length=n)(f:n≤1000000)(g:i+8≤n)(b:z=(i:Int)):
 Calls Tryz.prog 185 #[.slice A n a,.int .i64 z] w fun e w'=>e= .returned (.int .u64 (u8 l i))∧w=w':=by
 subst b
 have h:=yH fun(z:Int) (b:z=(i:Int))=>get8 A l n a i z w b d f c g
 generalize u8 l i=x at*
 clear c d
 go_enter Tryz.func185,Tryz.ntmps185
 go_wp2_with(go_at_call 55;(with_reducible refine(h.out _ rfl).mono ?_);rintro e w' ⟨rfl,rfl⟩)
 go_ret
 exact⟨rfl,rfl⟩
def Part2 (w:World)(g m k:Nat)(f h:Nat→Int)(T:TypeId):Prop:=
 ∃vs:List Value,Blk w g vs T∧vs.length=m*2∧ ∀i,i<k→vs[i*2]? =some (.int .u64 (f i))∧vs[i*2+1]? =some (.int .u64 (h i))
theorem Part2.new (w:World)(m:Nat)(f h:Nat→Int)(T:TypeId):Part2 (w.alloc (.cells (Array.replicate (m*2) (Value.int .u64 0)) T)) w.heap.size m 0 f h T:=
 ⟨List.replicate (m*2) (.int .u64 0),by have:=Blk.new w (List.replicate (m*2) (.int .u64 0)) T;simpa using this,by simp,fun i hi=>absurd hi (by omega)⟩
theorem Part2.lt {w:World}{g m k:Nat}{f h:Nat→Int}{T:TypeId}(b:Part2 w g m k f h T):g<w.heap.size:=by
 obtain⟨c,a,_⟩:=b
 exact a.lt
theorem Part2.cells {w:World}{g m k:Nat}{f h:Nat→Int}{T:TypeId}(c:Part2 w g m k f h T)(e:k<m):(∃u v,w.cell? ⟨g,k*2,none⟩=some u∧w.cell? ⟨g,k*2+1,none⟩=some v)∧w.frozen? ⟨g,k*2,none⟩=false∧w.frozen? ⟨g,k*2+1,none⟩=false:=by
 obtain⟨b,a,d,_⟩:=c
 exact⟨⟨b[k*2],b[k*2+1],a.cell (List.getElem?_eq_getElem (by omega)),a.cell (List.getElem?_eq_getElem (by omega))⟩,a.frozen _,a.frozen _⟩
theorem Part2.step {w:World}{g m k:Nat}{f h:Nat→Int}{T:TypeId}(j:Part2 w g m k f h T)(o:k<m):Part2 ((w.setCell ⟨g,k*2,none⟩ (.int .u64 (f k))).setCell ⟨g,k*2+1,none⟩ (.int .u64 (h k))) g m (k+1) f h T:=by
 obtain⟨n,c,d,l⟩:=j
 refine⟨_,(c.set_ (k*2) _).set_ (k*2+1) _,by simp[d],fun i hi=>?_⟩
 rcases Nat.lt_or_ge i k with a|a
 ·obtain⟨b,e⟩:=l i a
  rw[List.getElem?_set,List.getElem?_set,List.getElem?_set,List.getElem?_set,if_neg (by omega),if_neg (by omega),if_neg (by omega),if_neg (by omega)]
  exact⟨b,e⟩
 ·obtain rfl:i=k:=by omega
  rw[List.getElem?_set,List.getElem?_set,List.getElem?_set,if_neg (by omega),if_pos rfl,if_pos (by omega),if_pos rfl,if_pos (by simp;omega)]
  exact⟨rfl,rfl⟩
theorem Part2.in2 {w:World}{g m:Nat}{f h:Nat→Int}{T:TypeId}(j:Part2 w g m m f h T)(d: ∀i,0≤f i∧f i≤18446744073709551615)(c: ∀i,0≤h i∧h i≤18446744073709551615):In2 w (some ⟨g,0,none⟩) m f h:=fun i hi=>by
 obtain⟨n,a,l,k⟩:=j
 obtain⟨b,e⟩:=k i hi
 exact⟨g,0,rfl,a.lt,by rw[Nat.zero_add];exact a.cell b,by rw[Nat.zero_add];exact a.cell e,d i,c i⟩
theorem aMs:(Tryz.prog.info? 254).map (fun i=>(i.zero,i.size,i.bytes))=some (some (.agg #[.int .u64 0,.int .u64 0]),2,16):=by kernel_rfl
theorem aMt (p:Nat):madeCells #[Value.int .u64 0,Value.int .u64 0] (p*2)=Array.replicate (p*2) (Value.int .u64 0):=by
 apply Array.ext
 ·simp[madeCells]
 ·intro i b a
  simp only[madeCells,Array.getElem_map,Array.getElem_range,Array.getElem_replicate]
  have:i%2=0∨i%2=1:=by omega
  rcases this with h|h<;>simp[h]
theorem aMu (S T:TypeId)(e:Tryz.prog.underlying S=some (.slice T))(a:(Tryz.prog.info? T).map (fun i=>(i.zero,i.size,i.bytes))=some (some (.agg #[.int .u64 0,.int .u64 0]),2,16))(p:Nat)(z:Int)(c:z=(p:Int))(g:p≤1000000)(w:World):
 (Instr.makeSlice S (.int .i64 z) (.int .i64 z)).run Tryz.prog w= .ok (.slice (some ⟨w.heap.size,0,none⟩) p p) (w.alloc (.cells (Array.replicate (p*2) (Value.int .u64 0)) T)):=by
 subst c
 obtain⟨i,f,b⟩:=Option.map_eq_some_iff.1 a
 simp only[Prod.mk.injEq]at b
 obtain⟨c,hs,d⟩:=b
 have h:=run_make (P:=Tryz.prog) w S T i _ e f c .i64 .i64 (p:Int) (p:Int) (by omega) (Int.le_refl _) (by rw[d];omega) (by omega)
 rw[hs,Int.toNat_natCast]at h
 rw[h]
 show Result.ok _ (w.alloc (.cells (madeCells #[Value.int .u64 0,Value.int .u64 0] (p*2)) T))=_
 rw[aMt]
end Ye
end Go.Proofs.YtlelnfokffflnaaGreat
