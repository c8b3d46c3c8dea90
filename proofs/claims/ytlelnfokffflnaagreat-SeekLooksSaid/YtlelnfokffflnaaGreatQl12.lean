/-
  Texts beneath the proof.
-/
import Derived.Test.YtlelnfokffflnaaGreatQl11
set_option linter.unusedVariables false
set_option linter.unusedSimpArgs false
set_option maxRecDepth 100000
set_option maxHeartbeats 8000000
open Go.ChangeShapes Go.WideShapes Go.ChangeAt Go.RowKit
namespace Go.Proofs.YtlelnfokffflnaaGreat
namespace Gt
open Bytes8 Blk8 Own8 OwnE Ob Od Ga Gb Gf Gi Gj Gl Gq
open Gm (flB stB fcode aFY)
open Go1 (magicB hcode aA5)
theorem aAt:Tryz.prog.built 99 []=some (hd0.cells 20).toArray:=by kernel_rfl
theorem aCW {fn:Func}{p u v:Tmp}{b:TypeId}(h:fn.results= #[.cell p b,.tmp u,.tmp v])(tmps:Array Value)(P:Program)(w:World):
 (results fn tmps).run P w=((asAddr (tmps.getD p undef)).run P w).andThen fun a w=>((loadVar b a).run P w).andThen fun x w=> .ok (.tuple #[x,tmps.getD u undef,tmps.getD v undef]) w:=by
 simp[results,h]
theorem aAJ {P:Program}{fn:Func}{p u v:Tmp}{f:TypeId}(h:fn.results= #[.cell p f,.tmp u,.tmp v])(tmps:Array Value)(w:World)(g:Nat)(t:TypeId)(b:Array Value)(fr:Nat×Nat)(d:TypeDesc)(c e:Value)
 (n:tmps.getD p undef= .pointer (some ⟨g,0,none⟩))(i:tmps.getD u undef=c)(j:tmps.getD v undef=e)(o:w.heap[g]? =some (.cells b t fr))(m:P.underlying f=some d)(k:(match d with| .struct _| .array _ _=>true|_=>false)=true)(l:(P.info? f).map (·.size)=some b.size):
 (results fn tmps).run P w= .ok (.tuple #[.agg b,c,e]) w:=by
 rw[aCW h,n,i,j]
 simp[asAddr,run_loadVar_row w g t f b fr d o m k l,Result.andThen]
abbrev RTold (h:HD)(dp c:Int)(w:World)(e:Ending)(w':World):Prop:=e= .returned (.tuple #[.agg (h.cells 20).toArray,.int .u64 dp,.int .i64 c])∧Below w.heap.size w w'
attribute [local irreducible] HD.cells wpList Code.wp
theorem aHc (A:Option Addr)(n c:Nat)(w:World)(g:n<272):
 Calls Tryz.prog 90 #[.slice A n c] w (RTold hd0 0 22 w):=by
 have i:(n:Int)<272:=by omega
 go_enter Tryz.func90,Tryz.ntmps90
 go_upto_region 1 with fail
 have d:=yH ((Below.refl w.heap.size w).alloc (yR _) (.cells Tryz.zeroCells99 99))
 have b:=yH (heap_alloc_new w (.cells Tryz.zeroCells99 99))
 have f:=yH (show(w.alloc (.cells Tryz.zeroCells99 99)).heap.size=w.heap.size+1 by simp)
 generalize w.alloc (.cells Tryz.zeroCells99 99)=w1 at*
 go_wp2_with(first
  |((with_reducible apply aAb 13);refine aAh rfl 99 rfl _ aAt ?_)
  |((with_reducible apply aAa (.tmp 2) (.tmp 13));refine wpList_store_row rfl 99 (.tmp 2) (.tmp 13) rfl w.heap.size (hd0.cells 20).toArray rfl rfl 99 Tryz.zeroCells99 b.out (aAc _) aAk (HD.one _ 20) ?_)
  |fail)
 refine bodyPost_ret (v:= .tuple #[.agg (hd0.cells 20).toArray,.int .u64 0,.int .i64 22]) (by exact aAJ Tryz.results90 _ _ w.heap.size 99 _ (0,0) _ _ _ rfl rfl rfl (setRow_heap _ _ _ _ _ (0,0) b.out) Tryz.underlying99 rfl (aAc _)) rfl ?_
 exact⟨rfl,below_setRow d.out (yR _) _⟩
theorem aHd (A:Option Addr)(l:List Int)(n c:Nat)(w:World)(o:Bytes w A l)(r:l.length=n)(g:272≤n)(q:n≤c)(d:magicB l=false):
 Calls Tryz.prog 90 #[.slice A n c] w (RTold hd0 0 6 w):=by
 have s: ¬(n:Int)<272:=by omega
 go_enter Tryz.func90,Tryz.ntmps90
 go_upto_region 1 with fail
 have i:=yH ((Below.refl w.heap.size w).alloc (yR _) (.cells Tryz.zeroCells99 99))
 have f:=yH (heap_alloc_new w (.cells Tryz.zeroCells99 99))
 have p:=yH (show(w.alloc (.cells Tryz.zeroCells99 99)).heap.size=w.heap.size+1 by simp)
 generalize w.alloc (.cells Tryz.zeroCells99 99)=w1 at*
 have j:(l.take 8).length=8:=by simp;omega
 have b:=yH (o.below i.out (yR _))
 have m:=(aA5 b.out 8).string c 8 j
 have t:(!(strOfNums (l.take 8)).toList== [76,80,75,83,72,72,82,72])=true:=by unfold magicB at d;rw[d];rfl
 generalize strOfNums (l.take 8)=S at*
 have k:(8:Int)≤(c:Int):=by omega
 go_wp2_with(first
  |((with_reducible apply aAb 18);refine aAh rfl 99 rfl _ aAt ?_)
  |((with_reducible apply aAa (.tmp 2) (.tmp 18));refine wpList_store_row rfl 99 (.tmp 2) (.tmp 18) rfl w.heap.size (hd0.cells 20).toArray rfl rfl 99 Tryz.zeroCells99 f.out (aAc _) aAk (HD.one _ 20) ?_)
  |fail)
 refine bodyPost_ret (v:= .tuple #[.agg (hd0.cells 20).toArray,.int .u64 0,.int .i64 6]) (by exact aAJ Tryz.results90 _ _ w.heap.size 99 _ (0,0) _ _ _ rfl rfl rfl (setRow_heap _ _ _ _ _ (0,0) f.out) Tryz.underlying99 rfl (aAc _)) rfl ?_
 exact⟨rfl,below_setRow i.out (yR _) _⟩
theorem aHe (A:Option Addr)(l:List Int)(n c:Nat)(w:World)(G:Bytes w A l)(hL:l.length=n)(E:272≤n)(hn:n≤1000000)(hc:n≤c)(X:magicB l=true):
 Calls Tryz.prog 90 #[.slice A n c] w (RTold (if fcode (hdOf l) n=0 then hdOf l else hd0) (if fcode (hdOf l) n=0 then Ob.u8 l 248 else 0) (fcode (hdOf l) n) w):=by
 have d1: ¬(n:Int)<272:=by omega
 have HT:=yH fun(W:World) (hW:Bytes W A l)=>aOt A l n c W hW hL E hn
 have j:=aDk G.1 20
 have g:=aDk G.1 21
 have HE:=yH fun(W:World)=>aI3 (hdOf l) j W
 have D:=G.1.at_ 16
 have o:(hdOf l).st=l.getD 16 0:=rfl
 rw[←o]at D
 clear o
 generalize Ob.u8 l 248=dp at*
 go_enter Tryz.func90,Tryz.ntmps90
 go_upto_region 1 with fail
 have b1:=yH ((Below.refl w.heap.size w).alloc (yR _) (.cells Tryz.zeroCells99 99))
 have Z1:=yH (heap_alloc_new w (.cells Tryz.zeroCells99 99))
 have S1:=yH (show(w.alloc (.cells Tryz.zeroCells99 99)).heap.size=w.heap.size+1 by simp)
 generalize w.alloc (.cells Tryz.zeroCells99 99)=w1 at*
 have J:(l.take 8).length=8:=by simp;omega
 have q:=yH (G.below b1.out (yR _))
 have Y:=(aA5 q.out 8).string c 8 J
 have hS:(!(strOfNums (l.take 8)).toList== [76,80,75,83,72,72,82,72])=false:=by unfold magicB at X;rw[X];rfl
 generalize strOfNums (l.take 8)=S at*
 have ai:(8:Int)≤(c:Int):=by omega
 clear J X
 go_upto_region 6 with(first
  |(go_at_call 149;((with_reducible refine(HT.out _ q.out).mono ?_);rintro e w2 ⟨rfl,F⟩;have I:=yH F;clear F))
  |((with_reducible apply aAa (.tmp 5) (.tmp 22));refine wpList_store_row rfl 99 (.tmp 5) (.tmp 22) rfl w2.heap.size ((hdOf l).cells 20).toArray rfl rfl 99 Tryz.zeroCells99 (heap_alloc_new w2 _) (aAc _) aAk (HD.one _ 20) ?_)
  |fail)
 have L:=yH (show Blk ((w2.alloc (.cells Tryz.zeroCells99 99)).setRow w2.heap.size ((hdOf l).cells 20).toArray) w2.heap.size ((hdOf l).cells 20) 99 from setRow_heap _ _ _ _ _ (0,0) (heap_alloc_new w2 _))
 have B3:=yH (show Below w1.heap.size w1 ((w2.alloc (.cells Tryz.zeroCells99 99)).setRow w2.heap.size ((hdOf l).cells 20).toArray)from below_setRow (I.out.alloc I.out.size _) I.out.size _)
 generalize (w2.alloc (.cells Tryz.zeroCells99 99)).setRow w2.heap.size ((hdOf l).cells 20).toArray=w3 at*
 clear Y hS G q HT
 go_upto_region 7 with(first
  |((with_reducible apply aAb 25);refine wpList_load_row rfl 99 (.tmp 5) rfl w2.heap.size rfl 99 ((hdOf l).cells 20).toArray (0,0) _ L.out Tryz.underlying99 rfl (aAc _) ?_)
  |(go_at_call 91;((with_reducible refine(HE.out _).mono ?_);rintro e w4 ⟨rfl,t⟩;have m:=yH (L.out.below t L.out.lt);have B4:=yH (B3.out.trans (t.mono B3.out.size));clear t))
  |fail)
 have f:=yH ((B4.out.block w.heap.size (by rw[S1.out];exact Nat.lt_succ_self _)).trans Z1.out)
 have k:=yH (b1.out.trans (B4.out.mono (by rw[S1.out];exact Nat.le_succ _)))
 have c1:w4.cell? ⟨w2.heap.size,1,none⟩=some (.int .u32 (hdOf l).ic):=m.out.cell ((hdOf l).get 20 1 (by decide))
 have c2:w4.cell? ⟨w2.heap.size,2,none⟩=some (.int .i64 (hdOf l).st):=m.out.cell ((hdOf l).get 20 2 (by decide))
 have af:=HD.nums_at m.out 0 (by decide)
 have ac:=HD.nums_at m.out 1 (by decide)
 have ag:=HD.nums_at m.out 2 (by decide)
 have ah:=HD.nums_at m.out 3 (by decide)
 have ae:=HD.nums_at m.out 4 (by decide)
 have aj:=HD.nums_at m.out 5 (by decide)
 have ak:=j.ic
 obtain⟨p0,p1⟩:=j.N 0
 obtain⟨r0,r1⟩:=j.N 1
 have b:fcode (hdOf l) n=if flB (hdOf l).ic=true then 7 else if stB (hdOf l).st=false then 8 else if(hdOf l).N 0<272∨(hdOf l).N 0%8≠0∨(hdOf l).N 1%8≠0 then 5 else if endB (hdOf l)=false∨(n:Int)<endV (hdOf l)then 2 else if tcode ((hdOf l).N 2) ((hdOf l).N 3) ((hdOf l).N 0) (endV (hdOf l))≠0 then tcode ((hdOf l).N 2) ((hdOf l).N 3) ((hdOf l).N 0) (endV (hdOf l))else tcode ((hdOf l).N 4) ((hdOf l).N 5) ((hdOf l).N 0) (endV (hdOf l)):=rfl
 have B:=yH (aFY (hdOf l) g)
 have C:endB (hdOf l)=true→endV (hdOf l)=(hdOf l).N 0+(hdOf l).N 1:=fun h=>if_pos (of_decide_eq_true h)
 have s:=yH (aE7 ((hdOf l).N 0) (endV (hdOf l)) ((hdOf l).N 2) ((hdOf l).N 3) (j.N 0) (aFY _ g) (j.N 2) (j.N 3) w4)
 have z:=yH (aE7 ((hdOf l).N 0) (endV (hdOf l)) ((hdOf l).N 4) ((hdOf l).N 5) (j.N 0) (aFY _ g) (j.N 4) (j.N 5) w4)
 clear HE j g L B3 I d1
 have d: ∀x:Int,fcode (hdOf l) n=x→Hid (fcode (hdOf l) n=x):=fun x hx=>yH hx
 generalize fcode (hdOf l) n=p at*
 have base: ∀cd:Int,p=cd→cd≠0→Hid (p=cd):=fun cd h _=>yH h
 by_cases h1:flB (hdOf l).ic=true
 ·rw[if_pos h1]at b
  subst b
  have ab:(bits BinOp.andNot IntKind.u32 (hdOf l).ic 4 !=0)=true:=h1
  clear d base h1
  rw[if_neg (by decide),if_neg (by decide)]
  go_wp2_with(first
   |((with_reducible apply aAb 93);refine aAh rfl 99 rfl _ aAt ?_)
   |((with_reducible apply aAa (.tmp 2) (.tmp 93));refine wpList_store_row rfl 99 (.tmp 2) (.tmp 93) rfl w.heap.size (hd0.cells 20).toArray rfl rfl 99 Tryz.zeroCells99 f.out (aAc _) aAk (HD.one _ 20) ?_)
   |fail)
  refine bodyPost_ret (v:= .tuple #[.agg (hd0.cells 20).toArray,.int .u64 0,.int .i64 7]) (by exact aAJ Tryz.results90 _ _ w.heap.size 99 _ (0,0) _ _ _ rfl rfl rfl (setRow_heap _ _ _ _ _ (0,0) f.out) Tryz.underlying99 rfl (aAc _)) rfl ?_
  exact⟨rfl,below_setRow k.out (yR _) _⟩
 rw[if_neg h1]at b
 have ab:(bits BinOp.andNot IntKind.u32 (hdOf l).ic 4 !=0)=false:=by have M:flB (hdOf l).ic=false:=by simpa using h1
                                                                     exact M
 clear h1
 by_cases h2:stB (hdOf l).st=false
 ·rw[if_pos h2]at b
  subst b
  have aa:2<(hdOf l).st:=by unfold stB at h2;simp at h2;omega
  have d2:decide (2<(hdOf l).st)=true:=by simp;omega
  clear d base h2
  rw[if_neg (by decide),if_neg (by decide)]
  go_wp2_with(first
   |((with_reducible apply aAb 93);refine aAh rfl 99 rfl _ aAt ?_)
   |((with_reducible apply aAa (.tmp 2) (.tmp 93));refine wpList_store_row rfl 99 (.tmp 2) (.tmp 93) rfl w.heap.size (hd0.cells 20).toArray rfl rfl 99 Tryz.zeroCells99 f.out (aAc _) aAk (HD.one _ 20) ?_)
   |fail)
  refine bodyPost_ret (v:= .tuple #[.agg (hd0.cells 20).toArray,.int .u64 0,.int .i64 8]) (by exact aAJ Tryz.results90 _ _ w.heap.size 99 _ (0,0) _ _ _ rfl rfl rfl (setRow_heap _ _ _ _ _ (0,0) f.out) Tryz.underlying99 rfl (aAc _)) rfl ?_
  exact⟨rfl,below_setRow k.out (yR _) _⟩
 rw[if_neg h2]at b
 have aa: ¬2<(hdOf l).st:=by unfold stB at h2;simp at h2;omega
 have d2:decide (2<(hdOf l).st)=false:=by simp;omega
 clear h2
 by_cases u:(hdOf l).N 0<272∨(hdOf l).N 0%8≠0∨(hdOf l).N 1%8≠0
 ·rw[if_pos u]at b
  subst b
  clear d base
  rw[if_neg (by decide),if_neg (by decide)]
  by_cases h4:(hdOf l).N 0<272
  ·have d4:decide ((hdOf l).N 0<272)=true:=by simp;omega
   clear u
   go_wp2_with(first
    |((with_reducible apply aAb 93);refine aAh rfl 99 rfl _ aAt ?_)
    |((with_reducible apply aAa (.tmp 2) (.tmp 93));refine wpList_store_row rfl 99 (.tmp 2) (.tmp 93) rfl w.heap.size (hd0.cells 20).toArray rfl rfl 99 Tryz.zeroCells99 f.out (aAc _) aAk (HD.one _ 20) ?_)
    |fail)
   refine bodyPost_ret (v:= .tuple #[.agg (hd0.cells 20).toArray,.int .u64 0,.int .i64 5]) (by exact aAJ Tryz.results90 _ _ w.heap.size 99 _ (0,0) _ _ _ rfl rfl rfl (setRow_heap _ _ _ _ _ (0,0) f.out) Tryz.underlying99 rfl (aAc _)) rfl ?_
   exact⟨rfl,below_setRow k.out (yR _) _⟩
  have d4:decide ((hdOf l).N 0<272)=false:=by simp;omega
  by_cases h5:(hdOf l).N 0%8=0
  ·have h6: ¬(hdOf l).N 1%8=0:=by omega
   clear u
   go_wp2_with(first
    |((with_reducible apply aAb 93);refine aAh rfl 99 rfl _ aAt ?_)
    |((with_reducible apply aAa (.tmp 2) (.tmp 93));refine wpList_store_row rfl 99 (.tmp 2) (.tmp 93) rfl w.heap.size (hd0.cells 20).toArray rfl rfl 99 Tryz.zeroCells99 f.out (aAc _) aAk (HD.one _ 20) ?_)
    |fail)
   refine bodyPost_ret (v:= .tuple #[.agg (hd0.cells 20).toArray,.int .u64 0,.int .i64 5]) (by exact aAJ Tryz.results90 _ _ w.heap.size 99 _ (0,0) _ _ _ rfl rfl rfl (setRow_heap _ _ _ _ _ (0,0) f.out) Tryz.underlying99 rfl (aAc _)) rfl ?_
   exact⟨rfl,below_setRow k.out (yR _) _⟩
  ·clear u
   go_wp2_with(first
    |((with_reducible apply aAb 93);refine aAh rfl 99 rfl _ aAt ?_)
    |((with_reducible apply aAa (.tmp 2) (.tmp 93));refine wpList_store_row rfl 99 (.tmp 2) (.tmp 93) rfl w.heap.size (hd0.cells 20).toArray rfl rfl 99 Tryz.zeroCells99 f.out (aAc _) aAk (HD.one _ 20) ?_)
    |fail)
   refine bodyPost_ret (v:= .tuple #[.agg (hd0.cells 20).toArray,.int .u64 0,.int .i64 5]) (by exact aAJ Tryz.results90 _ _ w.heap.size 99 _ (0,0) _ _ _ rfl rfl rfl (setRow_heap _ _ _ _ _ (0,0) f.out) Tryz.underlying99 rfl (aAc _)) rfl ?_
   exact⟨rfl,below_setRow k.out (yR _) _⟩
 rw[if_neg u]at b
 have d4:decide ((hdOf l).N 0<272)=false:=by simp;omega
 have h5:(hdOf l).N 0%8=0:=by omega
 have h6:(hdOf l).N 1%8=0:=by omega
 clear u
 by_cases i:endB (hdOf l)=false∨(n:Int)<endV (hdOf l)
 ·rw[if_pos i]at b
  subst b
  clear d base
  rw[if_neg (by decide),if_neg (by decide)]
  cases H:endB (hdOf l)with
  |false=>
   clear i
   go_wp2_with(first
    |((with_reducible apply aAb 93);refine aAh rfl 99 rfl _ aAt ?_)
    |((with_reducible apply aAa (.tmp 2) (.tmp 93));refine wpList_store_row rfl 99 (.tmp 2) (.tmp 93) rfl w.heap.size (hd0.cells 20).toArray rfl rfl 99 Tryz.zeroCells99 f.out (aAc _) aAk (HD.one _ 20) ?_)
    |fail)
   refine bodyPost_ret (v:= .tuple #[.agg (hd0.cells 20).toArray,.int .u64 0,.int .i64 2]) (by exact aAJ Tryz.results90 _ _ w.heap.size 99 _ (0,0) _ _ _ rfl rfl rfl (setRow_heap _ _ _ _ _ (0,0) f.out) Tryz.underlying99 rfl (aAc _)) rfl ?_
   exact⟨rfl,below_setRow k.out (yR _) _⟩
  |true=>
   have J:(n:Int)<endV (hdOf l):=by rcases i with i|i;rw[H]at i;cases i;exact i
   clear i C
   generalize endV (hdOf l)=V at*
   have R:=B.out
   have d8:decide ((n:Int)<V)=true:=by simp;omega
   go_wp2_with(first
    |((with_reducible apply aAb 93);refine aAh rfl 99 rfl _ aAt ?_)
    |((with_reducible apply aAa (.tmp 2) (.tmp 93));refine wpList_store_row rfl 99 (.tmp 2) (.tmp 93) rfl w.heap.size (hd0.cells 20).toArray rfl rfl 99 Tryz.zeroCells99 f.out (aAc _) aAk (HD.one _ 20) ?_)
    |fail)
   refine bodyPost_ret (v:= .tuple #[.agg (hd0.cells 20).toArray,.int .u64 0,.int .i64 2]) (by exact aAJ Tryz.results90 _ _ w.heap.size 99 _ (0,0) _ _ _ rfl rfl rfl (setRow_heap _ _ _ _ _ (0,0) f.out) Tryz.underlying99 rfl (aAc _)) rfl ?_
   exact⟨rfl,below_setRow k.out (yR _) _⟩
 rw[if_neg i]at b
 have H:endB (hdOf l)=true:=by
  cases H:endB (hdOf l)with
  |true=>rfl
  |false=>exact absurd (Or.inl H) i
 have J: ¬(n:Int)<endV (hdOf l):=fun h=>i (Or.inr h)
 clear i C
 generalize endV (hdOf l)=V at*
 have R:=B.out
 have d8:decide ((n:Int)<V)=false:=by simp;omega
 generalize tcode ((hdOf l).N 2) ((hdOf l).N 3) ((hdOf l).N 0) V=t1 at*
 generalize tcode ((hdOf l).N 4) ((hdOf l).N 5) ((hdOf l).N 0) V=t2 at*
 have Z:=True.intro
 by_cases r:t1=0
 ·rw[if_neg (by simpa using r)]at b
  subst b r
  clear d base
  by_cases y:p=0
  ·rw[if_pos y,if_pos y]
   subst y
   go_wp2_with(first
    |(go_at_call 150;((with_reducible refine s.out.mono ?_);rintro e w' ⟨rfl,rfl⟩))
    |(go_at_call 150;((with_reducible refine z.out.mono ?_);rintro e w' ⟨rfl,rfl⟩))
    |((with_reducible apply aAb 95);refine wpList_load_row rfl 99 (.tmp 5) rfl w2.heap.size rfl 99 ((hdOf l).cells 20).toArray (0,0) _ m.out Tryz.underlying99 rfl (aAc _) ?_)
    |((with_reducible apply aAa (.tmp 2) (.tmp 95));refine wpList_store_row rfl 99 (.tmp 2) (.tmp 95) rfl w.heap.size ((hdOf l).cells 20).toArray rfl rfl 99 Tryz.zeroCells99 f.out (aAc _) aAk (HD.one _ 20) ?_)
    |fail)
   refine bodyPost_ret (v:= .tuple #[.agg ((hdOf l).cells 20).toArray,.int .u64 dp,.int .i64 0]) (by exact aAJ Tryz.results90 _ _ w.heap.size 99 _ (0,0) _ _ _ rfl rfl rfl (setRow_heap _ _ _ _ _ (0,0) f.out) Tryz.underlying99 rfl (aAc _)) rfl ?_
   exact⟨rfl,below_setRow k.out (yR _) _⟩
  ·rw[if_neg y,if_neg y]
   have dz:(p !=0)=true:=by simp[y]
   go_wp2_with(first
    |(go_at_call 150;((with_reducible refine s.out.mono ?_);rintro e w' ⟨rfl,rfl⟩))
    |(go_at_call 150;((with_reducible refine z.out.mono ?_);rintro e w' ⟨rfl,rfl⟩))
    |((with_reducible apply aAb 93);refine aAh rfl 99 rfl _ aAt ?_)
    |((with_reducible apply aAa (.tmp 2) (.tmp 93));refine wpList_store_row rfl 99 (.tmp 2) (.tmp 93) rfl w.heap.size (hd0.cells 20).toArray rfl rfl 99 Tryz.zeroCells99 f.out (aAc _) aAk (HD.one _ 20) ?_)
    |fail)
   refine bodyPost_ret (v:= .tuple #[.agg (hd0.cells 20).toArray,.int .u64 0,.int .i64 p]) (by exact aAJ Tryz.results90 _ _ w.heap.size 99 _ (0,0) _ _ _ rfl rfl rfl (setRow_heap _ _ _ _ _ (0,0) f.out) Tryz.underlying99 rfl (aAc _)) rfl ?_
   exact⟨rfl,below_setRow k.out (yR _) _⟩
 ·rw[if_pos r]at b
  subst b
  clear d base
  rw[if_neg r,if_neg r]
  have dz:(p !=0)=true:=by simp[r]
  have ad:(p==0)=false:=by simp[r]
  go_wp2_with(first
   |(go_at_call 150;((with_reducible refine s.out.mono ?_);rintro e w' ⟨rfl,rfl⟩))
   |((with_reducible apply aAb 93);refine aAh rfl 99 rfl _ aAt ?_)
   |((with_reducible apply aAa (.tmp 2) (.tmp 93));refine wpList_store_row rfl 99 (.tmp 2) (.tmp 93) rfl w.heap.size (hd0.cells 20).toArray rfl rfl 99 Tryz.zeroCells99 f.out (aAc _) aAk (HD.one _ 20) ?_)
   |fail)
  refine bodyPost_ret (v:= .tuple #[.agg (hd0.cells 20).toArray,.int .u64 0,.int .i64 p]) (by exact aAJ Tryz.results90 _ _ w.heap.size 99 _ (0,0) _ _ _ rfl rfl rfl (setRow_heap _ _ _ _ _ (0,0) f.out) Tryz.underlying99 rfl (aAc _)) rfl ?_
  exact⟨rfl,below_setRow k.out (yR _) _⟩
theorem aFa (A:Option Addr)(l:List Int)(n c:Nat)(w:World)(i:Bytes w A l)(g:l.length=n)(j:n≤1000000)(f:n≤c):
 Calls Tryz.prog 90 #[.slice A n c] w (RTold (if hcode l n=0 then hdOf l else hd0) (if hcode l n=0 then Ob.u8 l 248 else 0) (hcode l n) w):=by
 by_cases b:n<272
 ·rw[show hcode l n=22 from if_pos b,if_neg (by decide),if_neg (by decide)]
  exact aHc A n c w b
 by_cases h2:magicB l=false
 ·rw[show hcode l n=6 by unfold hcode;rw[if_neg b,if_pos h2],if_neg (by decide),if_neg (by decide)]
  exact aHd A l n c w i g (by omega) f h2
 ·have d:magicB l=true:=by simpa using h2
  rw[show hcode l n=fcode (hdOf l) n by unfold hcode;rw[if_neg b,if_neg h2]]
  exact aHe A l n c w i g (by omega) j f d
end Gt
namespace Yd
open Bytes8 Blk8 Own8 OwnE Ob Kf Yc
abbrev entV (s r m:Int)(K:Nat→Int)(x:Int)(A:Option Addr)(n c:Nat):Value:= .agg #[.int .u64 s,.int .u64 r,.int .u64 m,.int .u8 (K 0),.int .u8 (K 1),.int .u8 (K 2),.int .u8 (K 3),.int .u8 (K 4),.int .u8 (K 5),.int .u8 (K 6),.int .u8 (K 7),.int .u8 (K 8),.int .u8 (K 9),.int .u8 (K 10),.int .u8 (K 11),.int .u8 (K 12),.int .u8 (K 13),.int .u8 (K 14),.int .u8 (K 15),.int .u64 x,.slice A n c]
abbrev entC (T:TypeId)(s r m:Int)(K:Nat→Int)(x:Int)(A:Option Addr)(n c:Nat):Obj:= .cells #[.int .u64 s,.int .u64 r,.int .u64 m,.int .u8 (K 0),.int .u8 (K 1),.int .u8 (K 2),.int .u8 (K 3),.int .u8 (K 4),.int .u8 (K 5),.int .u8 (K 6),.int .u8 (K 7),.int .u8 (K 8),.int .u8 (K 9),.int .u8 (K 10),.int .u8 (K 11),.int .u8 (K 12),.int .u8 (K 13),.int .u8 (K 14),.int .u8 (K 15),.int .u64 x,.slice A n c] T
def entL (s r m:Int)(K:Nat→Int)(x:Int)(A:Option Addr)(n c:Nat):List Value:=[.int .u64 s,.int .u64 r,.int .u64 m,.int .u8 (K 0),.int .u8 (K 1),.int .u8 (K 2),.int .u8 (K 3),.int .u8 (K 4),.int .u8 (K 5),.int .u8 (K 6),.int .u8 (K 7),.int .u8 (K 8),.int .u8 (K 9),.int .u8 (K 10),.int .u8 (K 11),.int .u8 (K 12),.int .u8 (K 13),.int .u8 (K 14),.int .u8 (K 15),.int .u64 x,.slice A n c]
theorem aPF {w:World}{g:Nat}{T:TypeId}{s r m x:Int}{K:Nat→Int}{A:Option Addr}{n c:Nat}(h:Blk w g (entL s r m K x A n c) T)(d:IdOk K):Bytes w (some ⟨g,3,none⟩) (idL K):=by
 refine⟨aHi d,fun i hi=>⟨g,3,rfl,h.lt,?_⟩⟩
 have b:i<16:=hi
 refine h.cell ?_
 unfold entL idL
 rcases i with _|_|_|_|_|_|_|_|_|_|_|_|_|_|_|_|i
 all_goals first|rfl|omega
def entB (s r m:Int)(K:Nat→Int)(x:Int)(ps:List Int):List Int:=nums [s,r,m]++idL K++nums [x]++nums ps
theorem aDC (s r m:Int)(K:Nat→Int)(x:Int)(f g:Nat→Int)(k:Nat):(entB s r m K x (prs f g k)).length=48+16*k:=by
 unfold entB
 rw[List.length_append,List.length_append,List.length_append,aDv,nums_len,nums_len]
 rfl
abbrev arrV (x:Int)(A:Option Addr)(n c:Nat):Value:= .agg #[.int .u64 x,.slice A n c]
abbrev arrC (T:TypeId)(x:Int)(A:Option Addr)(n c:Nat):Obj:= .cells #[.int .u64 x,.slice A n c] T
def arrB (x:Int)(l:List Int):List Int:=nums [x]++nums l
abbrev InsideA (b:Nat)(W:World)(x:Int)(A:Option Addr)(n c:Nat):Prop:=W.cell? ⟨b,0,none⟩=some (.int .u64 x)∧W.cell? ⟨b,1,none⟩=some (.slice A n c)
end Yd
namespace Yk
open Bytes8 Blk8 Own8 OwnE Ob Oc Od Oe Rows2 Kf Yc Yd
def NumsTold (ls:List Int)(z:Nat)(W:World)(e:Ending)(w':World):Prop:= ∃A c,e= .returned (.slice A z c)∧Own w' W.heap.size A z c (nums ls)∧Below W.heap.size W w'
theorem aFZ (b:List Int)(k z:Nat)(N:Array Value)(j:(b.map (Value.int .u64)).toArray=N)(W:World)(g:Nat)(i:W.heap.size=g)(f:I64 b)(m:b.length=k)(d:k≤1000)(l:8*k=z):
 Calls Tryz.prog 124 #[.slice (some ⟨g,0,none⟩) k k] (W.alloc (.cells N 27)) (NumsTold b z W):=by
 subst j i l
 have h:=aEj W.heap.size k k b 27 _ (Blk.new W _ _) f m d
 exact h.mono fun e w' ⟨A,c,h1,h2,h3⟩=>⟨A,c,h1,Own.base h2 (by simp),((Below.refl W.heap.size W).alloc (yR _) _).trans (h3.mono (by simp))⟩
theorem aBW (b:List Int)(k z:Nat)(N:Array Value)(j:(b.map (Value.int .u64)).toArray=N)(W:World)(g:Nat)(i:W.heap.size=g)(f:I64 b)(m:b.length=k)(d:k≤1000)(l:8*k=z):
 Calls Tryz.prog 124 #[.slice (some ⟨g,0,none⟩) k k] (W.alloc (.cells N 27)).drew (NumsTold b z W):=
 (aFZ b k z N j W.drew g i f m d l).mono fun e w' ⟨A,c,h1,h2,h3⟩=>⟨A,c,h1,h2,(Below.refl W.heap.size W).drew.trans h3⟩
theorem aKc {x:Int}(h:0≤x∧x≤18446744073709551615):I64 [x]:=by intro v b;simp at b;subst b;exact h
theorem aKd {x y:Int}(h:0≤x∧x≤18446744073709551615)(c:0≤y∧y≤18446744073709551615):I64 [x,y]:=by intro v b;simp at b;rcases b with rfl|rfl<;>assumption
theorem aFb (x:Int)(A:Option Addr)(n c:Nat)(f:Nat→Int)(w:World)(H:InInts .u64 w A n f)(hn:n≤50000)(hx:0≤x∧x≤18446744073709551615):
 Calls Tryz.prog 137 #[arrV x A n c] w (Owned (objB 6 (arrB x (ints f n))) (16+(8+8*n)+padN (8+8*n)) w):=by
 have Z:=yH H
 have b0:=yH ((Below.refl w.heap.size w).alloc (yR _) (arrC 198 x A n c))
 have j:=yH (show Blk (w.alloc (arrC 198 x A n c)) w.heap.size [.int .u64 x,.slice A n c] 198 from Blk.new w _ _)
 have i0:=j.out.drew.cell (i:=0) rfl
 have i1:=j.out.drew.cell (i:=1) rfl
 have F:=yH (j.out.alloc (.cells #[.int .u64 x] 27)).drew
 have z:=F.out.cell (i:=0) rfl
 have u:=F.out.cell (i:=1) rfl
 have E:=yH fun(W:World) (g:Nat) (hg:W.heap.size=g)=>aBW [x] 1 8 _ rfl W g hg (aKc hx) rfl (by decide) rfl
 dsimp only[List.map]at E
 have D:=yH fun(W:World) (hb:Below w.heap.size w W)=>rnums_in A n c f W (Z.out.below hb) (by omega)
 have J:=yH fun(B:Option Addr) (cb:Nat) (W:World) (base:Nat) (ho:Own W base B (8+8*n) cb (nums [x]++nums (ints f n)))=>aCQ 6 B _ (8+8*n) cb W (by decide) ho.bytes ho.2.1 (by omega)
 unfold Owned at J
 unfold NumsTold at E
 unfold arrB
 generalize padN (8+8*n)=pn at*
 clear H
 go_enter Tryz.func137,Tryz.ntmps137
 go_wp2
 go_region_held3 (fun W=>InsideA w.heap.size W x A n c) (first|(with_reducible exact⟨i0,i1⟩)|(with_reducible exact⟨z,u⟩)|(with_reducible exact⟨q0,q1⟩)|(with_reducible exact⟨r0,r1⟩)|(with_reducible exact⟨Y,s1⟩)|(with_reducible exact⟨t0,t1⟩)|go_keep) (first
  |(refine aAg (o:=⟨some 10,_,_,_,_,_⟩) rfl (.tmp 6) (.tmp 9) rfl (w.heap.size+1) X 8 V (nums [x]) rfl O1.out R (8*n) c2 (nums (ints f n)) rfl O2.out.bytes (aFP f n) (by omega) ?_;intro A3 c3 w3 k r;have O3:=yH k;have M:=yH (I.out.trans r);have t:=yH (j.out.below M.out (Nat.lt_succ_self _));have Y:=t.out.cell (i:=0) rfl;have s1:=t.out.cell (i:=1) rfl;clear k r)
  |(go_at_call 124;(with_reducible refine(E.out _ _ (by simp)).mono ?_);rintro e w1 ⟨X,V,rfl,p,q⟩;have C:=yH (Own.base p (b2:=w.heap.size+1) (by simp));have s:=yH (show Below (w.heap.size+1) (w.alloc (arrC 198 x A n c)) w1 from Below.mono q (by simp));have L:=yH (j.out.below s.out (Nat.lt_succ_self _));have q0:=L.out.cell (i:=0) rfl;have q1:=L.out.cell (i:=1) rfl;clear p q)
  |(go_at_call 124;(with_reducible refine(D.out w1 (b0.out.trans (s.out.mono (Nat.le_succ _)))).mono ?_);rintro e w2 ⟨R,c2,rfl,l,b⟩;have O2:=yH l;have O1:=yH (C.out.kept b (yR _));have I:=yH (s.out.trans (b.mono (by have:=s.out.size;simpa using this)));have G:=yH (j.out.below I.out (Nat.lt_succ_self _));have r0:=G.out.cell (i:=0) rfl;have r1:=G.out.cell (i:=1) rfl;clear l b)
  |(go_at_call 127;(with_reducible refine(J.out _ _ _ _ O3.out).mono ?_);rintro e w4 ⟨A4,c4,rfl,m,d⟩;have O4:=yH m;have B4:=yH d;have N:=yH (t.out.below d t.out.lt);have t0:=N.out.cell (i:=0) rfl;have t1:=N.out.cell (i:=1) rfl;clear m d))
 go_wp2
 go_ret
 have y:=b0.out.trans (M.out.mono (Nat.le_succ _))
 exact⟨A4,c4,rfl,Own.base O4.out y.size,y.trans (B4.out.mono y.size)⟩
theorem aDm (C:Int)(A:Option Addr)(n c:Nat)(f g:Nat→Int)(w:World)(h:C=4∨C=5)(hi:In2 w A n f g)(hn:n≤50000):
 Calls Tryz.prog 74 #[.int .i64 C,.slice A n c] w (Owned (objB C (nums (prs f g n))) (16+16*n+padN (16*n)) w):=by
 have HI:=yH hi
 have HP:=yH fun(B:Option Addr) (cb:Nat) (W:World) (H:Own W w.heap.size B (16*n) cb (nums (prs f g n)))=>aCQ C B _ (16*n) cb W (by omega) H.bytes H.2.1 (by omega)
 unfold Owned at HP
 have R:=yH fun k:Nat=>aIX f g k
 generalize padN (16*n)=pn at*
 clear hi
 rcases h with rfl|rfl
 all_goals
  go_enter Tryz.func74,Tryz.ntmps74
  go_wp2
  go_loopw [5,6] (fun z i wr=> ∃(k:Nat) (I:Option Addr) (J:Nat),k≤n∧z= .slice I (16*k) J∧i= .int .i64 (k:Int)∧Hid (Own wr w.heap.size I (16*k) J (nums (prs f g k)))∧Hid (Below w.heap.size w wr)) (fun _ i _=>n-(intOf i).toNat)
  case atStart=>exact⟨0,none,0,Nat.zero_le _,rfl,rfl,Own.nil w _ (yR _),yH (Below.refl _ _)⟩
  case round=>
   obtain⟨k,I,J,hk,rfl,rfl,H,q⟩:=hrel
   have D:=q.out.size
   by_cases Z:k<n
   ·obtain⟨b,d,rfl,j,E,x,ab,L⟩:=HI.out k Z
    have c0:=(q.out.cell (p:=⟨b,d+k*2,none⟩) j).trans E
    have V:=(q.out.cell (p:=⟨b,d+k*2+1,none⟩) j).trans x
    have y:b<wr.heap.size:=yL j D
    have u:=yH j
    have M:=yH (R.out k)
    clear E x j
    have HN:=yH fun(W:World) (g1:Nat) (hg:W.heap.size=g1)=>aBW [f k,g k] 2 16 _ rfl W g1 hg (aKd ab L) rfl (by decide) rfl
    dsimp only[List.map]at HN
    unfold NumsTold at HN
    generalize f k=X at*
    generalize g k=Y at*
    have u0:wr.drew.cell? ⟨b,d+k*2,none⟩=some (.int .u64 X):=c0
    have u1:wr.drew.cell? ⟨b,d+k*2+1,none⟩=some (.int .u64 Y):=V
    have af:(0:Int)≤(k:Int):=by omega
    have ae:(k:Int)<(n:Int):=by omega
    have t:=yH y
    go_wp2
    go_region_held3 (fun W=>W.cell? ⟨b,d+k*2,none⟩=some (.int .u64 X)∧W.cell? ⟨b,d+k*2+1,none⟩=some (.int .u64 Y)) (first|(with_reducible exact⟨u0,u1⟩)|(with_reducible exact⟨q0,q1⟩)|(with_reducible exact⟨r0,r1⟩)|go_keep) (first
     |(go_at_call 124;(with_reducible refine(HN.out _ _ (by simp)).mono ?_);rintro e w2 ⟨A2,c2,rfl,s,l⟩;have O2:=yH s;have O3:=yH (H.out.kept l (yR _));have B2:=yH (q.out.trans (l.mono D));have q0:=(l.cell (p:=⟨b,d+k*2,none⟩) t.out).trans u0;have q1:=(l.cell (p:=⟨b,d+k*2+1,none⟩) t.out).trans u1;clear s l)
     |(refine aAg (o:=⟨some 32,_,_,_,_,_⟩) rfl (.tmp 19) (.tmp 31) rfl w.heap.size I (16*k) J _ rfl O3.out A2 16 c2 (nums [X,Y]) rfl O2.out.bytes (by rw[nums_len];rfl) (by omega) ?_;intro A3 c3 w3 r m;have ac:=yH r;have ad:=yH (B2.out.trans m);have r0:=(m.cell (p:=⟨b,d+k*2,none⟩) u.out).trans q0;have r1:=(m.cell (p:=⟨b,d+k*2+1,none⟩) u.out).trans q1;clear r m))
    all_goals
     go_wp2
     go_roundw
     case rel=>
      refine⟨k+1,A3,c3,by omega,rfl,by go_num,?_,ad⟩
      rw[M.out]
      exact ac
     case measure=>simp[intOf];omega
   ·obtain rfl:k=n:=by omega
    go_wp2_with(go_at_call 127;(with_reducible refine(HP.out _ _ _ H.out).mono ?_);rintro e w5 ⟨A5,c5,rfl,F,G⟩;have N:=yH F;have aa:=yH G;clear F G)
    go_ret
    exact⟨A5,c5,rfl,Own.base N.out q.out.size,q.out.trans (aa.out.mono q.out.size)⟩
theorem aFc (s r m:Int)(K:Nat→Int)(x:Int)(A:Option Addr)(n c:Nat)(f g:Nat→Int)(w:World)(hi:In2 w A n f g)(hn:n≤50000)(hK:IdOk K)(hs:0≤s∧s≤18446744073709551615)(hr:0≤r∧r≤18446744073709551615)(hm:0≤m∧m≤18446744073709551615)(hx:0≤x∧x≤18446744073709551615):
 Calls Tryz.prog 80 #[entV s r m K x A n c] w (Owned (objB 3 (entB s r m K x (prs f g n))) (16+(48+16*n)+padN (48+16*n)) w):=by
 have HI:=yH hi
 have b0:=yH ((Below.refl w.heap.size w).alloc (yR _) (entC 179 s r m K x A n c))
 have D:=yH (show Blk (w.alloc (entC 179 s r m K x A n c)) w.heap.size (entL s r m K x A n c) 179 from Blk.new w _ _)
 have ad:I64 [s,r,m]:=by intro v hv;simp at hv;rcases hv with rfl|rfl|rfl<;>assumption
 have i0:=D.out.drew.cell (i:=0) rfl
 have i1:=D.out.drew.cell (i:=1) rfl
 have i2:=D.out.drew.cell (i:=2) rfl
 have PB:=yH (D.out.alloc (.cells #[.int .u64 s,.int .u64 r,.int .u64 m] 27)).drew
 have ae:=PB.out.cell (i:=0) rfl
 have L:=PB.out.cell (i:=1) rfl
 have R:=PB.out.cell (i:=2) rfl
 have l:=yH (Nat.lt_succ_self w.heap.size)
 have HN:=yH fun(W:World) (g:Nat) (hg:W.heap.size=g)=>aBW [s,r,m] 3 24 _ rfl W g hg ad rfl (by decide) rfl
 have F:=yH fun(W:World) (g:Nat) (hg:W.heap.size=g)=>aFZ [x] 1 8 _ rfl W g hg (aKc hx) rfl (by decide) rfl
 dsimp only[List.map]at HN F
 unfold NumsTold at HN F
 have aw:=yH fun k:Nat=>show entB s r m K x (prs f g (k+1))=entB s r m K x (prs f g k)++nums [f k,g k]by unfold entB;rw[aIX];simp
 have HP:=yH fun(B:Option Addr) (cb:Nat) (W:World) (ho:Own W (w.heap.size+1) B (48+16*n) cb (entB s r m K x (prs f g n)))=>aCQ 3 B _ (48+16*n) cb W (by decide) ho.bytes ho.2.1 (by omega)
 unfold Owned at HP
 have E:nums [s,r,m]++idL K++nums [x]=entB s r m K x (prs f g 0):=by unfold entB;rw[aNR,aMS,List.append_nil]
 have aj:=yH E
 generalize padN (48+16*n)=pn at*
 clear hi E ad
 go_enter Tryz.func80,Tryz.ntmps80
 go_wp2
 go_region_held3 (fun W=>W.cell? ⟨w.heap.size,0,none⟩=some (.int .u64 s)∧W.cell? ⟨w.heap.size,1,none⟩=some (.int .u64 r)∧W.cell? ⟨w.heap.size,2,none⟩=some (.int .u64 m)) (first|(with_reducible exact⟨i0,i1,i2⟩)|(with_reducible exact⟨ae,L,R⟩)|(with_reducible exact⟨q0,V,q2⟩)|(with_reducible exact⟨r0,r1,r2⟩)|go_keep) (first
  |(go_at_call 124;(with_reducible refine(HN.out _ _ (by simp)).mono ?_);rintro e w1 ⟨A1,c1,rfl,al,an⟩;have O1:=yH (Own.base al (b2:=w.heap.size+1) (by simp));have B1:=yH (show Below (w.heap.size+1) (w.alloc (entC 179 s r m K x A n c)) w1 from Below.mono an (by simp));have R1:=yH (D.out.below B1.out l.out);have aC:=yH (aPF R1.out hK);have q0:=R1.out.cell (i:=0) rfl;have V:=R1.out.cell (i:=1) rfl;have q2:=R1.out.cell (i:=2) rfl;clear al an)
  |(refine aAg (o:=⟨some 15,_,_,_,_,_⟩) rfl (.tmp 12) (.tmp 14) rfl (w.heap.size+1) A1 24 c1 (nums [s,r,m]) rfl O1.out (some ⟨w.heap.size,3,none⟩) 16 16 (idL K) rfl aC.out rfl (by decide) ?_;intro A2 c2 w2 ac ak;have au:=yH ac;have J:=yH (B1.out.trans ak);have R2:=yH (D.out.below J.out l.out);have r0:=R2.out.cell (i:=0) rfl;have r1:=R2.out.cell (i:=1) rfl;have r2:=R2.out.cell (i:=2) rfl;have aF:=R2.out.cell (i:=19) rfl;clear ac ak))
 clear i0 i1 i2 ae L R q0 V q2 r0 r1 r2
 go_wp2_with(first
  |(go_at_call 124;(with_reducible refine(F.out _ _ (by simp)).mono ?_);rintro e w3 ⟨A3,c3,rfl,M,H⟩;have O3:=yH M;have ab:=yH (au.out.kept H (yR _));have az:=yH (J.out.trans (H.mono (by have:=J.out.size;simpa using this)));clear M H)
  |(at_builtin;refine aAd rfl (.tmp 16) (.tmp 20) rfl (w.heap.size+1) A2 40 c2 _ rfl ab.out A3 8 c3 (nums [x]) rfl O3.out.bytes (by rw[nums_len];rfl) (by decide) ?_;intro A4 c4 w4 I ao;rw[aj.out]at I;have av:=yH I;have Z:=yH (az.out.trans ao);have R4:=yH (D.out.below Z.out l.out);have aH:=R4.out.cell (i:=20) rfl;clear I ao))
 go_loopw [3,4] (fun z i wr=> ∃(k:Nat) (A':Option Addr) (c':Nat),k≤n∧z= .slice A' (48+16*k) c'∧i= .int .i64 (k:Int)∧Hid (Own wr (w.heap.size+1) A' (48+16*k) c' (entB s r m K x (prs f g k)))∧Hid (Below (w.heap.size+1) (w.alloc (entC 179 s r m K x A n c)) wr)) (fun _ i _=>n-(intOf i).toNat)
 case atStart=>exact⟨0,A4,c4,Nat.zero_le _,rfl,rfl,av,Z⟩
 case round=>
  obtain⟨k,A',c',hk,rfl,rfl,ho,hb⟩:=hrel
  have Bw:=yH (b0.out.trans (hb.out.mono (Nat.le_succ _)))
  have aD:w.heap.size+1≤wr.heap.size:=by have:=hb.out.size;simpa using this
  have Rr:=yH (D.out.below hb.out l.out)
  have am:=Rr.out.cell (i:=20) rfl
  by_cases aE:k<n
  ·obtain⟨b,d,rfl,t,aa,ah,ay,ap⟩:=HI.out k aE
   have c0:=(Bw.out.cell (p:=⟨b,d+k*2,none⟩) t).trans aa
   have ai:=(Bw.out.cell (p:=⟨b,d+k*2+1,none⟩) t).trans ah
   have y:b<wr.heap.size:=by omega
   have u:b<w.heap.size+1:=by omega
   have ag:=yH u
   have aq:=yH (aw.out k)
   clear aa ah t u
   have G:=yH fun(W:World) (g1:Nat) (hg:W.heap.size=g1)=>aBW [f k,g k] 2 16 _ rfl W g1 hg (aKd ay ap) rfl (by decide) rfl
   dsimp only[List.map]at G
   unfold NumsTold at G
   generalize f k=X at*
   generalize g k=Y at*
   have u0:wr.drew.cell? ⟨b,d+k*2,none⟩=some (.int .u64 X):=c0
   have u1:wr.drew.cell? ⟨b,d+k*2+1,none⟩=some (.int .u64 Y):=ai
   have u2:wr.drew.cell? ⟨w.heap.size,20,none⟩=some (.slice (some ⟨b,d,none⟩) n c):=am
   have Na:=yH ((Below.refl wr.heap.size wr).alloc (yR _) (.cells #[.int .u64 X,.int .u64 Y] 27)).drew
   have v0:=(Na.out.cell (p:=⟨b,d+k*2,none⟩) y).trans c0
   have v1:=(Na.out.cell (p:=⟨b,d+k*2+1,none⟩) y).trans ai
   have v2:=(Na.out.cell (p:=⟨w.heap.size,20,none⟩) (by show w.heap.size<wr.heap.size;omega)).trans am
   have aI:(0:Int)≤(k:Int):=by omega
   have aG:(k:Int)<(n:Int):=by omega
   have af:=yH y
   go_wp2
   go_region_held3 (fun W=>W.cell? ⟨b,d+k*2,none⟩=some (.int .u64 X)∧W.cell? ⟨b,d+k*2+1,none⟩=some (.int .u64 Y)∧W.cell? ⟨w.heap.size,20,none⟩=some (.slice (some ⟨b,d,none⟩) n c)) (first|(with_reducible exact⟨u0,u1,u2⟩)|(with_reducible exact⟨v0,v1,v2⟩)|(with_reducible exact⟨q0,V,q2⟩)|(with_reducible exact⟨r0,r1,r2⟩)|go_keep) (first
    |(go_at_call 124;(with_reducible refine(G.out _ _ (by simp)).mono ?_);rintro e w5 ⟨A5,c5,rfl,C,j⟩;have O5:=yH C;have O6:=yH (ho.out.kept j (yR _));have B5:=yH (hb.out.trans (j.mono aD));have q0:=(j.cell (p:=⟨b,d+k*2,none⟩) af.out).trans u0;have V:=(j.cell (p:=⟨b,d+k*2+1,none⟩) af.out).trans u1;have q2:=(j.cell (p:=⟨w.heap.size,20,none⟩) (by show w.heap.size<wr.heap.size;omega)).trans u2;clear C j)
    |(refine aAg (o:=⟨some 44,_,_,_,_,_⟩) rfl (.tmp 29) (.tmp 43) rfl (w.heap.size+1) A' (48+16*k) c' _ rfl O6.out A5 16 c5 (nums [X,Y]) rfl O5.out.bytes (by rw[nums_len];rfl) (by omega) ?_;intro A7 c7 w7 N q;have ar:=yH N;have aB:=yH (B5.out.trans q);have r0:=(q.cell (p:=⟨b,d+k*2,none⟩) ag.out).trans q0;have r1:=(q.cell (p:=⟨b,d+k*2+1,none⟩) ag.out).trans V;have r2:=(q.cell (p:=⟨w.heap.size,20,none⟩) l.out).trans q2;clear N q))
   all_goals
    go_wp2
    go_roundw
    case rel=>
     refine⟨k+1,A7,c7,by omega,rfl,by go_num,?_,aB⟩
     rw[aq.out]
     exact ar
    case measure=>simp[intOf];omega
  ·obtain rfl:k=n:=by omega
   go_wp2_with(go_at_call 127;(with_reducible refine(HP.out _ _ _ ho.out).mono ?_);rintro e w5 ⟨A5,c5,rfl,C,j⟩;have aA:=yH C;have ax:=yH j;clear C j)
   go_ret
   exact⟨A5,c5,rfl,Own.base aA.out Bw.out.size,Bw.out.trans (ax.out.mono Bw.out.size)⟩
end Yk
namespace Ye
open Bytes8 Blk8 Own8 OwnE Ob Oc Og Oi Rows2 Kf Yc Yp
def Bodied2 (l:List Int)(a:Nat)(k:Int)(ah ea:Nat)(w:World)(e:Ending)(w':World):Prop:=
 ∃B m cb,e= .returned (.tuple #[.slice B m cb,.int .i64 (ecode l a k ah ea)])∧Below w.heap.size w w'∧(ecode l a k ah ea=0→Bytes w' B (bodyL l a)∧(bodyL l a).length=m∧m≤cb∧cb≤maxLen∧m≤1000000)
theorem aMr (A:Option Addr)(l:List Int)(n f a g d:Nat)(k:Int)(w:World)(H:Bytes w A l)(z:l.length=n)(Z:n≤1000000)(hc:n≤f)(D:f≤maxLen)(ha:a≤18446744073709551615)(ab:g≤1000)(aa:d≤1000)(ac:0<d)(Y:g%d=0):
 Calls Tryz.prog 184 #[.slice A n f,.int .u64 (a:Int),.int .i64 k,.int .i64 (g:Int),.int .i64 (d:Int)] w (Bodied2 l a k g d w):=by
 have x:=yH (aIQ A l n f a w H z Z hc D ha)
 unfold FrTold at x
 unfold Bodied2
 have c:ecode l a k g d=if code l a≠0 then code l a else if kindL l a≠k then 4 else if(bodyL l a).length<g+d∨(bodyL l a).length%d≠0 then 5 else 0:=rfl
 by_cases F:code l a≠0
 ·rw[if_pos F]at c
  rw[c]
  clear c
  generalize code l a=cd at*
  generalize kindL l a=kd at*
  generalize sizeL l a=s at*
  have HX:Hid (cd≠0):=yH F
  clear H z
  go_enter Tryz.func184,Tryz.ntmps184
  go_wp2_with(go_at_call 20;(with_reducible refine x.out.mono ?_);rintro e w2 ⟨rfl,b⟩;have i:=yH b;clear b)
  go_ret2
  exact⟨none,0,0,rfl,i.out.alloc i.out.size _,fun h=>absurd h HX.out⟩
 have I:code l a=0:=by omega
 obtain⟨m,hs,o,X,j,_⟩:=aDh z I
 rw[if_neg F,o]at c
 have y:sizeL l a=16+(m:Int):=by omega
 rw[I,y]at x
 by_cases h2:kindL l a≠k
 ·rw[if_pos h2]at c
  rw[c]
  generalize kindL l a=kd at*
  clear H z c hs y o j F I
  go_enter Tryz.func184,Tryz.ntmps184
  go_wp2_with(go_at_call 20;(with_reducible refine x.out.mono ?_);rintro e w2 ⟨rfl,b⟩;have i:=yH b;clear b)
  go_ret2
  exact⟨none,0,0,rfl,i.out.alloc i.out.size _,fun h=>absurd h (by decide)⟩
 have G:kindL l a=k:=by omega
 rw[if_neg h2]at c
 rw[G]at x
 have hcut:=aHN A n f (a+16) (a+16+m) ((a:Int)+16) ((a:Int)+(16+(m:Int))) (by omega) (by omega) (by omega) (by omega)
 have B:=yH (Bytes.cut H f (a+16) m (by omega))
 rw[←j]at B
 rw[show a+16+m-(a+16)=m by omega]at hcut
 have r:m≤f-(a+16)∧f-(a+16)≤maxLen:=by omega
 generalize f-(a+16)=cb at*
 generalize cutA A f (a+16)=C at*
 have u:=yH r
 have J:=yH o
 have ad:a+16+m≤1000000:=by omega
 unfold maxLen at D
 clear H z hs y o j F I h2 G r
 by_cases h3:m<g+d
 ·rw[if_pos (Or.inl h3)]at c
  rw[c]
  have L:(m:Int)-(g:Int)<(d:Int):=by omega
  clear c
  go_enter Tryz.func184,Tryz.ntmps184
  go_wp2_with(go_at_call 20;(with_reducible refine x.out.mono ?_);rintro e w2 ⟨rfl,b⟩;have i:=yH b;clear b)
  go_ret2
  exact⟨none,0,0,rfl,i.out.alloc i.out.size _,fun h=>absurd h (by decide)⟩
 have L: ¬(m:Int)-(g:Int)<(d:Int):=by omega
 obtain⟨q,V⟩: ∃q,g=d*q:=⟨g/d,by have:=Nat.div_add_mod g d;omega⟩
 have E:(m-g)%d=m%d:=by
  subst V
  have:m=(m-d*q)+d*q:=by omega
  conv=>rhs;rw[this,Nat.add_mul_mod_self_left]
 have t:((m:Int)-(g:Int)).tmod (d:Int)=((m%d:Nat):Int):=by
  rw[show(m:Int)-(g:Int)=((m-g:Nat):Int)by omega,Int.tmod_eq_emod_of_nonneg (by omega),←E]
  omega
 have N: ¬(d:Int)=0:=by omega
 clear V E
 by_cases h4:m%d=0
 ·rw[if_neg (by omega)]at c
  rw[c]
  rw[h4]at t
  clear c
  go_enter Tryz.func184,Tryz.ntmps184
  go_wp2_with(go_at_call 20;(with_reducible refine x.out.mono ?_);rintro e w2 ⟨rfl,b⟩;have i:=yH b;clear b)
  go_ret2
  exact⟨C,m,cb,rfl,i.out.alloc i.out.size _,fun _=>⟨B.out.below (i.out.alloc i.out.size _) (yR _),J.out,u.out.1,u.out.2,by omega⟩⟩
 ·rw[if_pos (Or.inr h4)]at c
  rw[c]
  obtain⟨R,M⟩: ∃R:Int,R=((m%d:Nat):Int):=⟨_,rfl⟩
  rw[←M]at t
  have p: ¬R=0:=by omega
  have h5:(R==0)=false:=by simpa using p
  have h6:(R !=0)=true:=by simpa using p
  have h7:decide (R=0)=false:=by simpa using p
  clear c M h4
  go_enter Tryz.func184,Tryz.ntmps184
  go_wp2_with(go_at_call 20;(with_reducible refine x.out.mono ?_);rintro e w2 ⟨rfl,b⟩;have i:=yH b;clear b)
  ·go_ret2
   exact⟨none,0,0,rfl,i.out.alloc i.out.size _,fun h=>absurd h (by decide)⟩
  all_goals (rename_i hx;trace_state;simp at hx;exact absurd hx p)
theorem aIc (A:Option Addr)(l:List Int)(n b a d c:Nat)(k q r:Int)(w:World)(y:Bytes w A l)(u:l.length=n)(s:n≤1000000)(t:n≤b)(m:b≤maxLen)(x:a≤18446744073709551615)(p:d≤1000)(o:c≤1000)(g:0<c)(f:d%c=0)(j:q=(d:Int))(i:r=(c:Int)):
 Calls Tryz.prog 184 #[.slice A n b,.int .u64 (a:Int),.int .i64 k,.int .i64 q,.int .i64 r] w (Bodied2 l a k d c w):=by
 subst j i
 exact aMr A l n b a d c k w y u s t m x p o g f
theorem aFd (A:Option Addr)(l:List Int)(n b i:Nat)(z:Int)(w:World)(f:Bytes w A l)(d:l.length=n)(g:n≤1000000)(j:i+8≤n)(c:z=(i:Int)):
 Calls Tryz.prog 185 #[.slice A n b,.int .i64 z] w fun e w'=>e= .returned (.int .u64 (u8 l i))∧w=w':=by
 subst c
 have k:=yH fun(z:Int) (c:z=(i:Int))=>get8 A l n b i z w c d g f j
 generalize u8 l i=x at*
 clear f d
 go_enter Tryz.func185,Tryz.ntmps185
 go_wp2_with(go_at_call 55;(with_reducible refine(k.out _ rfl).mono ?_);rintro e w' ⟨rfl,rfl⟩)
 go_ret
 exact⟨rfl,rfl⟩
def Part2 (w:World)(g m k:Nat)(f h:Nat→Int)(T:TypeId):Prop:=
 ∃vs:List Value,Blk w g vs T∧vs.length=m*2∧ ∀i,i<k→vs[i*2]? =some (.int .u64 (f i))∧vs[i*2+1]? =some (.int .u64 (h i))
theorem Part2.new (w:World)(m:Nat)(f h:Nat→Int)(T:TypeId):Part2 (w.alloc (.cells (Array.replicate (m*2) (Value.int .u64 0)) T)) w.heap.size m 0 f h T:=
 ⟨List.replicate (m*2) (.int .u64 0),by have:=Blk.new w (List.replicate (m*2) (.int .u64 0)) T;simpa using this,by simp,fun i hi=>absurd hi (by omega)⟩
theorem Part2.lt {w:World}{g m k:Nat}{f h:Nat→Int}{T:TypeId}(b:Part2 w g m k f h T):g<w.heap.size:=by
 obtain⟨d,c,_⟩:=b
 exact c.lt
theorem Part2.cells {w:World}{g m k:Nat}{f h:Nat→Int}{T:TypeId}(d:Part2 w g m k f h T)(j:k<m):(∃u v,w.cell? ⟨g,k*2,none⟩=some u∧w.cell? ⟨g,k*2+1,none⟩=some v)∧w.frozen? ⟨g,k*2,none⟩=false∧w.frozen? ⟨g,k*2+1,none⟩=false:=by
 obtain⟨c,b,i,_⟩:=d
 exact⟨⟨c[k*2],c[k*2+1],b.cell (List.getElem?_eq_getElem (by omega)),b.cell (List.getElem?_eq_getElem (by omega))⟩,b.frozen _,b.frozen _⟩
theorem Part2.step {w:World}{g m k:Nat}{f h:Nat→Int}{T:TypeId}(d:Part2 w g m k f h T)(p:k<m):Part2 ((w.setCell ⟨g,k*2,none⟩ (.int .u64 (f k))).setCell ⟨g,k*2+1,none⟩ (.int .u64 (h k))) g m (k+1) f h T:=by
 obtain⟨q,n,c,j⟩:=d
 refine⟨_,(n.set_ (k*2) _).set_ (k*2+1) _,by simp[c],fun i hi=>?_⟩
 rcases Nat.lt_or_ge i k with b|b
 ·obtain⟨o,l⟩:=j i b
  rw[List.getElem?_set,List.getElem?_set,List.getElem?_set,List.getElem?_set,if_neg (by omega),if_neg (by omega),if_neg (by omega),if_neg (by omega)]
  exact⟨o,l⟩
 ·obtain rfl:i=k:=by omega
  rw[List.getElem?_set,List.getElem?_set,List.getElem?_set,if_neg (by omega),if_pos rfl,if_pos (by omega),if_pos rfl,if_pos (by simp;omega)]
  exact⟨rfl,rfl⟩
theorem Part2.in2 {w:World}{g m:Nat}{f h:Nat→Int}{T:TypeId}(c:Part2 w g m m f h T)(l: ∀i,0≤f i∧f i≤18446744073709551615)(k: ∀i,0≤h i∧h i≤18446744073709551615):In2 w (some ⟨g,0,none⟩) m f h:=fun i hi=>by
 obtain⟨p,b,o,d⟩:=c
 obtain⟨n,j⟩:=d i hi
 exact⟨g,0,rfl,b.lt,by rw[Nat.zero_add];exact b.cell n,by rw[Nat.zero_add];exact b.cell j,l i,k i⟩
theorem aMs:(Tryz.prog.info? 254).map (fun i=>(i.zero,i.size,i.bytes))=some (some (.agg #[.int .u64 0,.int .u64 0]),2,16):=by kernel_rfl
theorem aMt (p:Nat):madeCells #[Value.int .u64 0,Value.int .u64 0] (p*2)=Array.replicate (p*2) (Value.int .u64 0):=by
 apply Array.ext
 ·simp[madeCells]
 ·intro i b c
  simp only[madeCells,Array.getElem_map,Array.getElem_range,Array.getElem_replicate]
  have:i%2=0∨i%2=1:=by omega
  rcases this with h|h<;>simp[h]
theorem aMu (S T:TypeId)(g:Tryz.prog.underlying S=some (.slice T))(b:(Tryz.prog.info? T).map (fun i=>(i.zero,i.size,i.bytes))=some (some (.agg #[.int .u64 0,.int .u64 0]),2,16))(p:Nat)(z:Int)(d:z=(p:Int))(k:p≤1000000)(w:World):
 (Instr.makeSlice S (.int .i64 z) (.int .i64 z)).run Tryz.prog w= .ok (.slice (some ⟨w.heap.size,0,none⟩) p p) (w.alloc (.cells (Array.replicate (p*2) (Value.int .u64 0)) T)):=by
 subst d
 obtain⟨i,f,c⟩:=Option.map_eq_some_iff.1 b
 simp only[Prod.mk.injEq]at c
 obtain⟨d,hs,j⟩:=c
 have h:=run_make (P:=Tryz.prog) w S T i _ g f d .i64 .i64 (p:Int) (p:Int) (by omega) (Int.le_refl _) (by rw[j];omega) (by omega)
 rw[hs,Int.toNat_natCast]at h
 rw[h]
 show Result.ok _ (w.alloc (.cells (madeCells #[Value.int .u64 0,Value.int .u64 0] (p*2)) T))=_
 rw[aMt]
end Ye
end Go.Proofs.YtlelnfokffflnaaGreat
