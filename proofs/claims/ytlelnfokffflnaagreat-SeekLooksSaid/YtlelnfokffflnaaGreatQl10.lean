/-
  Texts beneath the proof.
-/
import Derived.Test.YtlelnfokffflnaaGreatQl9
set_option linter.unusedVariables false
set_option linter.unusedSimpArgs false
set_option maxRecDepth 100000
set_option maxHeartbeats 4000000
open Go.ChangeShapes Go.WideShapes Go.ChangeAt Go.RowKit
namespace Go.Proofs.YtlelnfokffflnaaGreat
namespace Gm
open Bytes8 Blk8 Own8 OwnE Ga Gb Gf Gl
def flB (ic:Int):Bool:=bits BinOp.andNot IntKind.u32 ic 4 !=0
def stB (s:Int):Bool:=s==0||s==1||s==2
def fcode (h:HD)(n:Int):Int:=
 if flB h.ic=true then 7 else if stB h.st=false then 8
 else if h.N 0<272∨h.N 0%8≠0∨h.N 1%8≠0 then 5
 else if endB h=false∨n<endV h then 2
 else if tcode (h.N 2) (h.N 3) (h.N 0) (endV h)≠0 then tcode (h.N 2) (h.N 3) (h.N 0) (endV h)else tcode (h.N 4) (h.N 5) (h.N 0) (endV h)
theorem aFY (h:HD)(b:h.Ok 21):0≤endV h∧endV h≤18446744073709551615:=by
 have d:=b.N 0
 have c:=b.N 1
 unfold endV
 split<;>omega
attribute [local irreducible] HD.cells wpList Code.wp
abbrev Told (c:Int)(w:World)(e:Ending)(w':World):Prop:=e= .returned (.int .i64 c)∧Below w.heap.size w w'
theorem aI6 (h:HD)(d:h.Ok 21)(n:Int)(w:World)(t:(bits BinOp.andNot IntKind.u32 h.ic 4 !=0)=true):Calls Tryz.prog 51 #[.agg (h.cells 21).toArray,.int .u64 n] w (Told 7 w):=by
 have b0:=yH ((Below.refl w.heap.size w).alloc (yR _) (.cells (h.cells 21).toArray 39))
 have f:=yH (show Blk (w.alloc (.cells (h.cells 21).toArray 39)) w.heap.size (h.cells 21) 39 from Blk.new w _ _)
 have j:=yH fun(W:World)=>aDi h d W
 have k:=yH fun(W:World)=>aBf h.st W
 have p:=d.ic
 obtain⟨s,q⟩:=d.N 0
 obtain⟨r0,r1⟩:=d.N 1
 go_enter Tryz.func51,Tryz.ntmps51
 go_wp2_with(first
  |((with_reducible apply aAb 9);refine wpList_load_row rfl 39 (.tmp 2) rfl w.heap.size rfl 39 (h.cells 21).toArray (0,0) _ f.out Tryz.underlying39 rfl (aAf _) ?_)
  |(go_at_call 57;((with_reducible refine(j.out _).mono ?_);rintro e w1 ⟨rfl,b⟩;have m:=yH (b0.out.trans (b.mono b0.out.size));have c:=yH (f.out.below b f.out.lt);have r:w1.cell? ⟨w.heap.size,1,none⟩=some (.int .u32 h.ic):=c.out.cell (h.get 21 1 (by decide));have u:w1.cell? ⟨w.heap.size,2,none⟩=some (.int .i64 h.st):=c.out.cell (h.get 21 2 (by decide));have l:=HD.nums_at c.out 0 (by decide);have g:=HD.nums_at c.out 1 (by decide);have i:=HD.nums_at c.out 2 (by decide);have o:=HD.nums_at c.out 3 (by decide);clear b))
  |(go_at_call 109;((with_reducible refine(k.out _).mono ?_);rintro e w' ⟨rfl,rfl⟩))
  |fail)
 go_ret
 exact⟨rfl,m.out⟩
theorem aG8 (h:HD)(d:h.Ok 21)(n:Int)(w:World)(u:(bits BinOp.andNot IntKind.u32 h.ic 4 !=0)=false)(f:stB h.st=false):Calls Tryz.prog 51 #[.agg (h.cells 21).toArray,.int .u64 n] w (Told 8 w):=by
 have b0:=yH ((Below.refl w.heap.size w).alloc (yR _) (.cells (h.cells 21).toArray 39))
 have g:=yH (show Blk (w.alloc (.cells (h.cells 21).toArray 39)) w.heap.size (h.cells 21) 39 from Blk.new w _ _)
 have l:=yH fun(W:World)=>aDi h d W
 have i:=yH fun(W:World)=>aBf h.st W
 have q:=d.ic
 obtain⟨t,r⟩:=d.N 0
 obtain⟨r0,r1⟩:=d.N 1
 unfold stB at f
 rw[f]at i
 clear f
 go_enter Tryz.func51,Tryz.ntmps51
 go_wp2_with(first
  |((with_reducible apply aAb 9);refine wpList_load_row rfl 39 (.tmp 2) rfl w.heap.size rfl 39 (h.cells 21).toArray (0,0) _ g.out Tryz.underlying39 rfl (aAf _) ?_)
  |(go_at_call 57;((with_reducible refine(l.out _).mono ?_);rintro e w1 ⟨rfl,b⟩;have o:=yH (b0.out.trans (b.mono b0.out.size));have c:=yH (g.out.below b g.out.lt);have s:w1.cell? ⟨w.heap.size,1,none⟩=some (.int .u32 h.ic):=c.out.cell (h.get 21 1 (by decide));have x:w1.cell? ⟨w.heap.size,2,none⟩=some (.int .i64 h.st):=c.out.cell (h.get 21 2 (by decide));have m:=HD.nums_at c.out 0 (by decide);have j:=HD.nums_at c.out 1 (by decide);have k:=HD.nums_at c.out 2 (by decide);have p:=HD.nums_at c.out 3 (by decide);clear b))
  |(go_at_call 109;((with_reducible refine(i.out _).mono ?_);rintro e w' ⟨rfl,rfl⟩))
  |fail)
 go_ret
 exact⟨rfl,o.out⟩
theorem aI7 (h:HD)(l:h.Ok 21)(n:Int)(w:World)(B:(bits BinOp.andNot IntKind.u32 h.ic 4 !=0)=false)(o:stB h.st=true)(q:h.N 0<272∨h.N 0%8≠0∨h.N 1%8≠0):Calls Tryz.prog 51 #[.agg (h.cells 21).toArray,.int .u64 n] w (Told 5 w):=by
 have b0:=yH ((Below.refl w.heap.size w).alloc (yR _) (.cells (h.cells 21).toArray 39))
 have d:=yH (show Blk (w.alloc (.cells (h.cells 21).toArray 39)) w.heap.size (h.cells 21) 39 from Blk.new w _ _)
 have p:=yH fun(W:World)=>aDi h l W
 have m:=yH fun(W:World)=>aBf h.st W
 have u:=l.ic
 obtain⟨A,z⟩:=l.N 0
 obtain⟨r0,r1⟩:=l.N 1
 unfold stB at o
 rw[o]at m
 clear o
 by_cases y:h.N 0<272
 ·have t:decide (h.N 0<272)=true:=by simp;omega
  clear q
  go_enter Tryz.func51,Tryz.ntmps51
  go_wp2_with(first
   |((with_reducible apply aAb 9);refine wpList_load_row rfl 39 (.tmp 2) rfl w.heap.size rfl 39 (h.cells 21).toArray (0,0) _ d.out Tryz.underlying39 rfl (aAf _) ?_)
   |(go_at_call 57;((with_reducible refine(p.out _).mono ?_);rintro e w1 ⟨rfl,b⟩;have j:=yH (b0.out.trans (b.mono b0.out.size));have c:=yH (d.out.below b d.out.lt);have r:w1.cell? ⟨w.heap.size,1,none⟩=some (.int .u32 h.ic):=c.out.cell (h.get 21 1 (by decide));have s:w1.cell? ⟨w.heap.size,2,none⟩=some (.int .i64 h.st):=c.out.cell (h.get 21 2 (by decide));have i:=HD.nums_at c.out 0 (by decide);have f:=HD.nums_at c.out 1 (by decide);have g:=HD.nums_at c.out 2 (by decide);have k:=HD.nums_at c.out 3 (by decide);clear b))
   |(go_at_call 109;((with_reducible refine(m.out _).mono ?_);rintro e w' ⟨rfl,rfl⟩))
   |fail)
  go_ret
  exact⟨rfl,j.out⟩
 have t:decide (h.N 0<272)=false:=by simp;omega
 by_cases C:h.N 0%8=0
 ·have x: ¬h.N 1%8=0:=by omega
  clear q
  go_enter Tryz.func51,Tryz.ntmps51
  go_wp2_with(first
   |((with_reducible apply aAb 9);refine wpList_load_row rfl 39 (.tmp 2) rfl w.heap.size rfl 39 (h.cells 21).toArray (0,0) _ d.out Tryz.underlying39 rfl (aAf _) ?_)
   |(go_at_call 57;((with_reducible refine(p.out _).mono ?_);rintro e w1 ⟨rfl,b⟩;have j:=yH (b0.out.trans (b.mono b0.out.size));have c:=yH (d.out.below b d.out.lt);have r:w1.cell? ⟨w.heap.size,1,none⟩=some (.int .u32 h.ic):=c.out.cell (h.get 21 1 (by decide));have s:w1.cell? ⟨w.heap.size,2,none⟩=some (.int .i64 h.st):=c.out.cell (h.get 21 2 (by decide));have i:=HD.nums_at c.out 0 (by decide);have f:=HD.nums_at c.out 1 (by decide);have g:=HD.nums_at c.out 2 (by decide);have k:=HD.nums_at c.out 3 (by decide);clear b))
   |(go_at_call 109;((with_reducible refine(m.out _).mono ?_);rintro e w' ⟨rfl,rfl⟩))
   |fail)
  go_ret
  exact⟨rfl,j.out⟩
 ·clear q
  go_enter Tryz.func51,Tryz.ntmps51
  go_wp2_with(first
   |((with_reducible apply aAb 9);refine wpList_load_row rfl 39 (.tmp 2) rfl w.heap.size rfl 39 (h.cells 21).toArray (0,0) _ d.out Tryz.underlying39 rfl (aAf _) ?_)
   |(go_at_call 57;((with_reducible refine(p.out _).mono ?_);rintro e w1 ⟨rfl,b⟩;have j:=yH (b0.out.trans (b.mono b0.out.size));have c:=yH (d.out.below b d.out.lt);have r:w1.cell? ⟨w.heap.size,1,none⟩=some (.int .u32 h.ic):=c.out.cell (h.get 21 1 (by decide));have s:w1.cell? ⟨w.heap.size,2,none⟩=some (.int .i64 h.st):=c.out.cell (h.get 21 2 (by decide));have i:=HD.nums_at c.out 0 (by decide);have f:=HD.nums_at c.out 1 (by decide);have g:=HD.nums_at c.out 2 (by decide);have k:=HD.nums_at c.out 3 (by decide);clear b))
   |(go_at_call 109;((with_reducible refine(m.out _).mono ?_);rintro e w' ⟨rfl,rfl⟩))
   |fail)
  go_ret
  exact⟨rfl,j.out⟩
theorem aG9 (h:HD)(i:h.Ok 21)(n:Int)(w:World)(B:(bits BinOp.andNot IntKind.u32 h.ic 4 !=0)=false)(q:stB h.st=true)(t: ¬(h.N 0<272∨h.N 0%8≠0∨h.N 1%8≠0))(d:endB h=false∨n<endV h):Calls Tryz.prog 51 #[.agg (h.cells 21).toArray,.int .u64 n] w (Told 2 w):=by
 have b0:=yH ((Below.refl w.heap.size w).alloc (yR _) (.cells (h.cells 21).toArray 39))
 have f:=yH (show Blk (w.alloc (.cells (h.cells 21).toArray 39)) w.heap.size (h.cells 21) 39 from Blk.new w _ _)
 have j:=yH fun(W:World)=>aDi h i W
 have m:=yH fun(W:World)=>aBf h.st W
 have x:=i.ic
 obtain⟨E,z⟩:=i.N 0
 obtain⟨r0,r1⟩:=i.N 1
 unfold stB at q
 rw[q]at m
 clear q
 have A:decide (h.N 0<272)=false:=by simp;omega
 have C:h.N 0%8=0:=by omega
 have D:h.N 1%8=0:=by omega
 clear t
 by_cases h7:endB h=false
 ·rw[h7]at j
  clear d h7
  go_enter Tryz.func51,Tryz.ntmps51
  go_wp2_with(first
   |((with_reducible apply aAb 9);refine wpList_load_row rfl 39 (.tmp 2) rfl w.heap.size rfl 39 (h.cells 21).toArray (0,0) _ f.out Tryz.underlying39 rfl (aAf _) ?_)
   |(go_at_call 57;((with_reducible refine(j.out _).mono ?_);rintro e w1 ⟨rfl,b⟩;have o:=yH (b0.out.trans (b.mono b0.out.size));have c:=yH (f.out.below b f.out.lt);have s:w1.cell? ⟨w.heap.size,1,none⟩=some (.int .u32 h.ic):=c.out.cell (h.get 21 1 (by decide));have u:w1.cell? ⟨w.heap.size,2,none⟩=some (.int .i64 h.st):=c.out.cell (h.get 21 2 (by decide));have r:=HD.nums_at c.out 0 (by decide);have k:=HD.nums_at c.out 1 (by decide);have l:=HD.nums_at c.out 2 (by decide);have p:=HD.nums_at c.out 3 (by decide);clear b))
   |(go_at_call 109;((with_reducible refine(m.out _).mono ?_);rintro e w' ⟨rfl,rfl⟩))
   |fail)
  go_ret
  exact⟨rfl,o.out⟩
 ·have g:endB h=true:=by simpa using h7
  have y:n<endV h:=by rcases d with d|d;exact absurd d h7;exact d
  rw[g]at j
  clear d h7 g
  generalize endV h=V at*
  have F:decide (n<V)=true:=by simp;omega
  go_enter Tryz.func51,Tryz.ntmps51
  go_wp2_with(first
   |((with_reducible apply aAb 9);refine wpList_load_row rfl 39 (.tmp 2) rfl w.heap.size rfl 39 (h.cells 21).toArray (0,0) _ f.out Tryz.underlying39 rfl (aAf _) ?_)
   |(go_at_call 57;((with_reducible refine(j.out _).mono ?_);rintro e w1 ⟨rfl,b⟩;have o:=yH (b0.out.trans (b.mono b0.out.size));have c:=yH (f.out.below b f.out.lt);have s:w1.cell? ⟨w.heap.size,1,none⟩=some (.int .u32 h.ic):=c.out.cell (h.get 21 1 (by decide));have u:w1.cell? ⟨w.heap.size,2,none⟩=some (.int .i64 h.st):=c.out.cell (h.get 21 2 (by decide));have r:=HD.nums_at c.out 0 (by decide);have k:=HD.nums_at c.out 1 (by decide);have l:=HD.nums_at c.out 2 (by decide);have p:=HD.nums_at c.out 3 (by decide);clear b))
   |(go_at_call 109;((with_reducible refine(m.out _).mono ?_);rintro e w' ⟨rfl,rfl⟩))
   |fail)
  go_ret
  exact⟨rfl,o.out⟩
theorem aHa (h:HD)(f:h.Ok 21)(n:Int)(Y:n≤1000000)(w:World)(h1:(bits BinOp.andNot IntKind.u32 h.ic 4 !=0)=false)(A:stB h.st=true)(I: ¬(h.N 0<272∨h.N 0%8≠0∨h.N 1%8≠0))(z: ¬(endB h=false∨n<endV h)):Calls Tryz.prog 51 #[.agg (h.cells 21).toArray,.int .u64 n] w (Told (if tcode (h.N 2) (h.N 3) (h.N 0) (endV h)≠0 then tcode (h.N 2) (h.N 3) (h.N 0) (endV h)else tcode (h.N 4) (h.N 5) (h.N 0) (endV h)) w):=by
 have b0:=yH ((Below.refl w.heap.size w).alloc (yR _) (.cells (h.cells 21).toArray 39))
 have i:=yH (show Blk (w.alloc (.cells (h.cells 21).toArray 39)) w.heap.size (h.cells 21) 39 from Blk.new w _ _)
 have B:=yH fun(W:World)=>aDi h f W
 have t:=yH fun(W:World)=>aBf h.st W
 have M:=f.ic
 obtain⟨p0,Z⟩:=f.N 0
 obtain⟨r0,r1⟩:=f.N 1
 unfold stB at A
 rw[A]at t
 clear A
 have d4:decide (h.N 0<272)=false:=by simp;omega
 have h5:h.N 0%8=0:=by omega
 have h6:h.N 1%8=0:=by omega
 clear I
 have u:endB h=true:=by
  cases R:endB h with
  |true=>rfl
  |false=>exact absurd (Or.inl R) z
 have X: ¬n<endV h:=fun hx=>z (Or.inr hx)
 have H:endV h=h.N 0+h.N 1:=if_pos (of_decide_eq_true u)
 have m:h.N 0≤1000000000:=by omega
 have j:=aFY h f
 have l:=yH fun(W:World)=>aOr h f (endV h) (h.N 2) (h.N 3) j (f.N 2) (f.N 3) m W
 have x:=yH fun(W:World)=>aOr h f (endV h) (h.N 4) (h.N 5) j (f.N 4) (f.N 5) m W
 rw[u]at B
 clear z u H
 generalize tcode (h.N 2) (h.N 3) (h.N 0) (endV h)=F at*
 generalize tcode (h.N 4) (h.N 5) (h.N 0) (endV h)=t2 at*
 generalize endV h=V at*
 have d8:decide (n<V)=false:=by simp;omega
 by_cases E:F=0
 ·subst E
  rw[if_neg (by simp)]
  go_enter Tryz.func51,Tryz.ntmps51
  go_wp2_with(first
   |((with_reducible apply aAb 9);refine wpList_load_row rfl 39 (.tmp 2) rfl w.heap.size rfl 39 (h.cells 21).toArray (0,0) _ i.out Tryz.underlying39 rfl (aAf _) ?_)
   |(go_at_call 57;((with_reducible refine(B.out _).mono ?_);rintro e w1 ⟨rfl,d⟩;have k:=yH (b0.out.trans (d.mono b0.out.size));have b:=yH (i.out.below d i.out.lt);have G:w1.cell? ⟨w.heap.size,1,none⟩=some (.int .u32 h.ic):=b.out.cell (h.get 21 1 (by decide));have L:w1.cell? ⟨w.heap.size,2,none⟩=some (.int .i64 h.st):=b.out.cell (h.get 21 2 (by decide));have C:=HD.nums_at b.out 0 (by decide);have q:=HD.nums_at b.out 1 (by decide);have r:=HD.nums_at b.out 2 (by decide);have y:=HD.nums_at b.out 3 (by decide);clear d))
   |(go_at_call 109;((with_reducible refine(t.out _).mono ?_);rintro e w' ⟨rfl,rfl⟩))
   |((with_reducible apply aAb 47);refine wpList_load_row rfl 39 (.tmp 2) rfl w.heap.size rfl 39 (h.cells 21).toArray (0,0) _ b.out Tryz.underlying39 rfl (aAf _) ?_)
   |(go_at_call 110;((with_reducible refine(l.out w1).mono ?_);rintro e w2 ⟨rfl,c⟩;have p:=yH (k.out.trans (c.mono k.out.size));have g:=yH (b.out.below c b.out.lt);have s:=HD.nums_at g.out 4 (by decide);have D:=HD.nums_at g.out 5 (by decide);clear c))
   |((with_reducible apply aAb 57);refine wpList_load_row rfl 39 (.tmp 2) rfl w.heap.size rfl 39 (h.cells 21).toArray (0,0) _ g.out Tryz.underlying39 rfl (aAf _) ?_)
   |(go_at_call 110;((with_reducible refine(x.out w2).mono ?_);rintro e w3 ⟨rfl,o⟩;have J:=yH (p.out.trans (o.mono p.out.size));clear o)))
  go_ret
  exact⟨rfl,J.out⟩
 ·rw[if_pos E]
  have dt:(F !=0)=true:=by simp[E]
  go_enter Tryz.func51,Tryz.ntmps51
  go_wp2_with(first
   |((with_reducible apply aAb 9);refine wpList_load_row rfl 39 (.tmp 2) rfl w.heap.size rfl 39 (h.cells 21).toArray (0,0) _ i.out Tryz.underlying39 rfl (aAf _) ?_)
   |(go_at_call 57;((with_reducible refine(B.out _).mono ?_);rintro e w1 ⟨rfl,d⟩;have k:=yH (b0.out.trans (d.mono b0.out.size));have b:=yH (i.out.below d i.out.lt);have G:w1.cell? ⟨w.heap.size,1,none⟩=some (.int .u32 h.ic):=b.out.cell (h.get 21 1 (by decide));have L:w1.cell? ⟨w.heap.size,2,none⟩=some (.int .i64 h.st):=b.out.cell (h.get 21 2 (by decide));have C:=HD.nums_at b.out 0 (by decide);have q:=HD.nums_at b.out 1 (by decide);have r:=HD.nums_at b.out 2 (by decide);have y:=HD.nums_at b.out 3 (by decide);clear d))
   |(go_at_call 109;((with_reducible refine(t.out _).mono ?_);rintro e w' ⟨rfl,rfl⟩))
   |((with_reducible apply aAb 47);refine wpList_load_row rfl 39 (.tmp 2) rfl w.heap.size rfl 39 (h.cells 21).toArray (0,0) _ b.out Tryz.underlying39 rfl (aAf _) ?_)
   |(go_at_call 110;((with_reducible refine(l.out w1).mono ?_);rintro e w2 ⟨rfl,c⟩;have p:=yH (k.out.trans (c.mono k.out.size));have g:=yH (b.out.below c b.out.lt);have s:=HD.nums_at g.out 4 (by decide);have D:=HD.nums_at g.out 5 (by decide);clear c))
   |fail)
  go_ret
  exact⟨rfl,p.out⟩
theorem aJ9 (h:HD)(ok:h.Ok 21)(n:Int)(hn:n≤1000000)(w:World):Calls Tryz.prog 51 #[.agg (h.cells 21).toArray,.int .u64 n] w (Told (fcode h n) w):=by
 unfold fcode
 by_cases h1:flB h.ic=true
 ·rw[if_pos h1];exact aI6 h ok n w h1
 rw[if_neg h1]
 have h1':flB h.ic=false:=by simpa using h1
 by_cases h2:stB h.st=false
 ·rw[if_pos h2];exact aG8 h ok n w h1' h2
 rw[if_neg h2]
 have h2':stB h.st=true:=by simpa using h2
 by_cases h3:h.N 0<272∨h.N 0%8≠0∨h.N 1%8≠0
 ·rw[if_pos h3];exact aI7 h ok n w h1' h2' h3
 rw[if_neg h3]
 by_cases h4:endB h=false∨n<endV h
 ·rw[if_pos h4];exact aG9 h ok n w h1' h2' h3 h4
 rw[if_neg h4]
 exact aHa h ok n hn w h1' h2' h3 h4
end Gm
namespace Go1
open Bytes8 Blk8 Own8 OwnE Ga Gb Gi Gj Gk Gm
def magicB (l:List Int):Bool:=(strOfNums (l.take 8)).toList== [76,80,75,83,72,72,82,72]
def hcode (l:List Int)(n:Nat):Int:=if n<272 then 22 else if magicB l=false then 6 else fcode (hdOf l) n
def rhd (l:List Int)(n:Nat):HD:=if hcode l n=0 then hdOf l else hd0
abbrev HTold (h:HD)(c:Int)(w:World)(e:Ending)(w':World):Prop:=e= .returned (.tuple #[.agg (h.cells 21).toArray,.int .i64 c])∧Below w.heap.size w w'
theorem aA5 {w:World}{A:Option Addr}{l:List Int}(j:Bytes w A l)(k:Nat):Bytes w A (l.take k):=⟨j.1.take k,fun i hi=>by
 have g:i<k∧i<l.length:=by simp at hi;omega
 obtain⟨b,f,e,d,c⟩:=j.2 i g.2
 refine⟨b,f,e,d,?_⟩
 rw[c]
 simp[List.getD_eq_getElem?_getD,List.getElem?_take_of_lt g.1]⟩
attribute [local irreducible] HD.cells wpList Code.wp
theorem aI8 (A:Option Addr)(l:List Int)(n c:Nat)(w:World)(j:Bytes w A l)(p:l.length=n)(g:272≤n)(o:n≤c)(b:magicB l=false):
 Calls Tryz.prog 17 #[.slice A n c] w (HTold hd0 6 w):=by
 have q: ¬(n:Int)<272:=by omega
 go_enter Tryz.func17,Tryz.ntmps17
 go_upto_region 1 with fail
 have i:=yH ((Below.refl w.heap.size w).alloc (yR _) (.cells Tryz.zeroCells39 39))
 have f:=yH (heap_alloc_new w (.cells Tryz.zeroCells39 39))
 generalize w.alloc (.cells Tryz.zeroCells39 39)=w1 at*
 have d:(l.take 8).length=8:=by simp;omega
 have m:=(aA5 (j.below i.out (yR _)) 8).string c 8 d
 have r:(!(strOfNums (l.take 8)).toList== [76,80,75,83,72,72,82,72])=true:=by unfold magicB at b;rw[b];rfl
 generalize strOfNums (l.take 8)=S at*
 have k:(8:Int)≤(c:Int):=by omega
 clear j d b
 go_wp2_with(first
  |((with_reducible apply aAb 14);refine aAh rfl 39 rfl _ aDj ?_)
  |((with_reducible apply aAa (.tmp 2) (.tmp 14));refine wpList_store_row rfl 39 (.tmp 2) (.tmp 14) rfl w.heap.size (hd0.cells 21).toArray rfl rfl 39 Tryz.zeroCells39 f.out (aAf _) aAB (HD.one _ 21) ?_))
 refine bodyPost_ret (v:= .tuple #[.agg (hd0.cells 21).toArray,.int .i64 6]) (by exact aAq Tryz.results17 _ _ w.heap.size 39 _ (0,0) _ _ rfl rfl (setRow_heap _ _ _ _ _ (0,0) f.out) Tryz.underlying39 rfl (aAf _)) rfl ?_
 exact⟨rfl,below_setRow i.out (yR _) _⟩
theorem aI9 (A:Option Addr)(l:List Int)(n c:Nat)(w:World)(r:Bytes w A l)(E:l.length=n)(d:272≤n)(C:n≤1000000)(D:n≤c)(m:magicB l=true)(cd:Int)(i:fcode (hdOf l) n=cd):
 Calls Tryz.prog 17 #[.slice A n c] w (HTold (if cd=0 then hdOf l else hd0) cd w):=by
 have L: ¬(n:Int)<272:=by omega
 have F:=yH fun(W:World) (hW:Bytes W A l)=>aMb A l n c W hW E d C D
 have u:=yH fun(W:World)=>aJ9 (hdOf l) (aDk r.1 21) (n:Int) (by omega) W
 rw[i]at u
 go_enter Tryz.func17,Tryz.ntmps17
 go_upto_region 1 with fail
 have x:=yH ((Below.refl w.heap.size w).alloc (yR _) (.cells Tryz.zeroCells39 39))
 have G:=yH (heap_alloc_new w (.cells Tryz.zeroCells39 39))
 have s:=yH (show(w.alloc (.cells Tryz.zeroCells39 39)).heap.size=w.heap.size+1 by simp)
 generalize w.alloc (.cells Tryz.zeroCells39 39)=w1 at*
 have t:(l.take 8).length=8:=by simp;omega
 have g:=yH (r.below x.out (yR _))
 have o:=(aA5 g.out 8).string c 8 t
 have H:(!(strOfNums (l.take 8)).toList== [76,80,75,83,72,72,82,72])=false:=by unfold magicB at m;rw[m];rfl
 generalize strOfNums (l.take 8)=S at*
 have I:(8:Int)≤(c:Int):=by omega
 clear r t m i
 go_upto_region 6 with(first
  |(go_at_call 50;((with_reducible refine(F.out _ g.out).mono ?_);rintro e w2 ⟨rfl,f⟩;have p:=yH f;clear f))
  |((with_reducible apply aAa (.tmp 4) (.tmp 16));refine wpList_store_row rfl 39 (.tmp 4) (.tmp 16) rfl w2.heap.size ((hdOf l).cells 21).toArray rfl rfl 39 Tryz.zeroCells39 (heap_alloc_new w2 _) (aAf _) aAB (HD.one _ 21) ?_))
 have q:=yH (show Blk ((w2.alloc (.cells Tryz.zeroCells39 39)).setRow w2.heap.size ((hdOf l).cells 21).toArray) w2.heap.size ((hdOf l).cells 21) 39 from setRow_heap _ _ _ _ _ (0,0) (heap_alloc_new w2 _))
 have B:=yH (show Below w1.heap.size w1 ((w2.alloc (.cells Tryz.zeroCells39 39)).setRow w2.heap.size ((hdOf l).cells 21).toArray)from below_setRow (p.out.alloc p.out.size _) p.out.size _)
 generalize (w2.alloc (.cells Tryz.zeroCells39 39)).setRow w2.heap.size ((hdOf l).cells 21).toArray=w3 at*
 clear o H
 go_upto_region 7 with(first
  |((with_reducible apply aAb 17);refine wpList_load_row rfl 39 (.tmp 4) rfl w2.heap.size rfl 39 ((hdOf l).cells 21).toArray (0,0) _ q.out Tryz.underlying39 rfl (aAf _) ?_)
  |(go_at_call 51;((with_reducible refine(u.out _).mono ?_);rintro e w4 ⟨rfl,b⟩;have J:=yH (q.out.below b q.out.lt);have y:=yH (B.out.trans (b.mono B.out.size));clear b)))
 have k:=yH ((y.out.block w.heap.size (by rw[s.out];exact Nat.lt_succ_self _)).trans G.out)
 have z:=yH (x.out.trans (y.out.mono (by rw[s.out];exact Nat.le_succ _)))
 by_cases j:cd=0
 ·rw[if_pos j]
  subst j
  go_wp2_with(first
   |((with_reducible apply aAb 26);refine wpList_load_row rfl 39 (.tmp 4) rfl w2.heap.size rfl 39 ((hdOf l).cells 21).toArray (0,0) _ J.out Tryz.underlying39 rfl (aAf _) ?_)
   |((with_reducible apply aAa (.tmp 2) (.tmp 26));refine wpList_store_row rfl 39 (.tmp 2) (.tmp 26) rfl w.heap.size ((hdOf l).cells 21).toArray rfl rfl 39 Tryz.zeroCells39 k.out (aAf _) aAB (HD.one _ 21) ?_))
  refine bodyPost_ret (v:= .tuple #[.agg ((hdOf l).cells 21).toArray,.int .i64 0]) (by exact aAq Tryz.results17 _ _ w.heap.size 39 _ (0,0) _ _ rfl rfl (setRow_heap _ _ _ _ _ (0,0) k.out) Tryz.underlying39 rfl (aAf _)) rfl ?_
  exact⟨rfl,below_setRow z.out (yR _) _⟩
 ·rw[if_neg j]
  have M:(cd !=0)=true:=by simp[j]
  go_wp2_with(first
   |((with_reducible apply aAb 24);refine aAh rfl 39 rfl _ aDj ?_)
   |((with_reducible apply aAa (.tmp 2) (.tmp 24));refine wpList_store_row rfl 39 (.tmp 2) (.tmp 24) rfl w.heap.size (hd0.cells 21).toArray rfl rfl 39 Tryz.zeroCells39 k.out (aAf _) aAB (HD.one _ 21) ?_))
  refine bodyPost_ret (v:= .tuple #[.agg (hd0.cells 21).toArray,.int .i64 cd]) (by exact aAq Tryz.results17 _ _ w.heap.size 39 _ (0,0) _ _ rfl rfl (setRow_heap _ _ _ _ _ (0,0) k.out) Tryz.underlying39 rfl (aAf _)) rfl ?_
  exact⟨rfl,below_setRow z.out (yR _) _⟩
theorem aBK (A:Option Addr)(l:List Int)(n c:Nat)(w:World)(i:Bytes w A l)(g:l.length=n)(j:n≤1000000)(f:n≤c):
 Calls Tryz.prog 17 #[.slice A n c] w (HTold (rhd l n) (hcode l n) w):=by
 unfold rhd
 by_cases b:n<272
 ·rw[show hcode l n=22 from if_pos b,if_neg (by decide)]
  exact read_short A n c w b
 by_cases h2:magicB l=false
 ·rw[show hcode l n=6 by unfold hcode;rw[if_neg b,if_pos h2],if_neg (by decide)]
  exact aI8 A l n c w i g (by omega) f h2
 ·have d:magicB l=true:=by simpa using h2
  exact aI9 A l n c w i g (by omega) j f d _ (by unfold hcode;rw[if_neg b,if_neg h2])
end Go1
namespace Gp
open Bytes8 Blk8 Own8 OwnE Ob Ga Gb Gj
def id16 (l:List Int)(p:Nat):List Value:=(List.range 16).map fun i=> .int .u8 (l.getD (p+i) 0)
def id16k (l:List Int)(p k:Nat):List Value:=(List.range 16).map fun i=> .int .u8 (if i<k then l.getD (p+i) 0 else 0)
theorem aDV (l:List Int)(p k:Nat):(id16k l p k).length=16:=by simp[id16k]
theorem aHb (l:List Int)(p:Nat):id16k l p 16=id16 l p:=by
 unfold id16k id16
 apply List.map_congr_left
 intro i b
 rw[if_pos (List.mem_range.1 b)]
theorem aCr (l:List Int)(p k i:Nat)(b:i<16):(id16k l p k)[i]? =some (.int .u8 (if i<k then l.getD (p+i) 0 else 0)):=by simp[id16k,b]
theorem aKa (l:List Int)(p k:Nat)(f:k<16):(id16k l p k).set k (.int .u8 (l.getD (p+k) 0))=id16k l p (k+1):=by
 apply List.ext_getElem?
 intro i
 rw[List.getElem?_set]
 by_cases b:i<16
 ·by_cases d:k=i
  ·subst d
   rw[if_pos rfl,if_pos (by rw[aDV];exact f),aCr _ _ _ _ b,if_pos (Nat.lt_succ_self _)]
  ·rw[if_neg d,aCr _ _ _ _ b,aCr _ _ _ _ b]
   by_cases c:i<k
   ·rw[if_pos c,if_pos (by omega)]
   ·rw[if_neg c,if_neg (by omega)]
 ·rw[if_neg (by omega),List.getElem?_eq_none (by rw[aDV];omega),List.getElem?_eq_none (by rw[aDV];omega)]
theorem aMp (l:List Int)(p:Nat):(id16 l p).toArray.all (·.oneCell')=true:=by
 rw[Array.all_eq_true_iff_forall_mem]
 intro x b
 simp only[id16,List.mem_toArray,List.mem_map]at b
 obtain⟨i,_,rfl⟩:=b
 rfl
theorem aDW (l:List Int)(p:Nat):(Tryz.prog.info? 37).map (·.size)=some (id16 l p).toArray.size:=by rw[idInfo];simp[id16]
theorem aDB (l:List Int)(k:Nat):id16 l (24+16*k)=idc (hdOf l) k:=by
 unfold id16 idc HD.id hdOf
 rw[List.map_map]
 apply List.map_congr_left
 intro i _
 simp[Nat.add_assoc]
abbrev z16:List Value:=[.int .u8 0,.int .u8 0,.int .u8 0,.int .u8 0,.int .u8 0,.int .u8 0,.int .u8 0,.int .u8 0,.int .u8 0,.int .u8 0,.int .u8 0,.int .u8 0,.int .u8 0,.int .u8 0,.int .u8 0,.int .u8 0]
attribute [local irreducible] wpList Code.wp
theorem aE9 (A:Option Addr)(l:List Int)(n c p:Nat)(w:World)(r:Bytes w A l)(H:l.length=n)(F:n≤1000000)(L:p+16≤n):
 Calls Tryz.prog 197 #[.slice A n c,.int .i64 (p:Int)] w fun e w'=>e= .returned (.agg (id16 l p).toArray)∧Below w.heap.size w w':=by
 obtain⟨q,f,rfl,d,b⟩:=r.spot (by omega)
 have z:=yH b
 clear b r
 have u:=yH (show Blk ((w.alloc (.cells z16.toArray 37)).alloc (.cells z16.toArray 37)) w.heap.size z16 37 from(Blk.new w z16 _).alloc _)
 have B:=yH (show Blk ((w.alloc (.cells z16.toArray 37)).alloc (.cells z16.toArray 37)) (w.heap.size+1) (id16k l p 0) 37 from Blk.new_at _ _ _ _ (by simp))
 have b0:=yH (((Below.refl w.heap.size w).alloc (yR _) (.cells z16.toArray 37)).alloc (by simp) (.cells z16.toArray 37))
 have J:=yH (show((w.alloc (.cells z16.toArray 37)).alloc (.cells z16.toArray 37)).heap.size=w.heap.size+2 by simp)
 go_enter Tryz.func197,Tryz.ntmps197
 go_upto_region 2 with fail
 generalize (w.alloc (.cells z16.toArray 37)).alloc (.cells z16.toArray 37)=w0 at*
 go_wp2_with fail
 go_loopw [6] (fun i wr=> ∃k:Nat,k≤16∧i= .int .i64 (k:Int)∧Hid (Blk wr (w.heap.size+1) (id16k l p k) 37)∧Hid (Below (w.heap.size+1) w0 wr)) (fun i _=>16-(intOf i).toNat)
 case atStart=>exact⟨0,Nat.zero_le _,rfl,B,yH (Below.refl _ _)⟩
 case round=>
  obtain⟨k,I,rfl,g,m⟩:=hrel
  by_cases j:k<16
  ·have o:=yH (aKa l p k j)
   have C:wr.cell? ⟨q,f+(p+k),none⟩=some (.int .u8 (l.getD (p+k) 0)):=((m.out.cell (p:=⟨q,f+(p+k),none⟩) (Nat.lt_succ_of_lt d)).trans (b0.out.cell (p:=⟨q,f+(p+k),none⟩) d)).trans (z.out (p+k) (by omega))
   have G:=g.out.cell (aCr l p k k j)
   have E:=g.out.frozen k
   have t:(p:Int)+(k:Int)<(n:Int):=by omega
   have s:(0:Int)≤(p:Int)+(k:Int):=by omega
   generalize l.getD (p+k) 0=x at*
   go_wp2_with fail
   go_roundw
   case rel=>exact⟨k+1,by omega,by go_num,yH (by rw[←o.out];exact g.out.set_ k _),yH (m.out.setCell (yR _) _)⟩
   case measure=>simp[intOf];omega
  ·obtain rfl:k=16:=by omega
   have D:=yH (show Blk wr (w.heap.size+1) (id16 l p) 37 by rw[←aHb];exact g.out)
   have Z:=yH ((m.out.block w.heap.size (Nat.lt_succ_self _)).trans u.out)
   have y:=yH (b0.out.trans (m.out.mono (Nat.le_succ _)))
   clear g m
   go_wp2_with(first
    |((with_reducible apply aAb 19);refine wpList_load_row rfl 37 (.tmp 5) rfl (w.heap.size+1) rfl 37 (id16 l p).toArray (0,0) _ D.out Tryz.underlying37 rfl (aDW l p) ?_)
    |((with_reducible apply aAa (.tmp 4) (.tmp 19));refine wpList_store_row rfl 37 (.tmp 4) (.tmp 19) rfl w.heap.size (id16 l p).toArray rfl rfl 37 _ Z.out (aDW l p) (by simp[id16]) (aMp l p) ?_)
    |fail)
   refine bodyPost_ret (v:= .agg (id16 l p).toArray) (by exact results_cell_row Tryz.results197 _ _ w.heap.size 37 _ (0,0) _ rfl (setRow_heap _ w.heap.size _ _ _ (0,0) Z.out) Tryz.underlying37 rfl (aDW l p)) rfl ?_
   exact⟨rfl,below_setRow y.out (yR _) _⟩
theorem aAO (h k:HD)(m p:Nat)(v:Value)(d:p<70+m)(g:k.at_ m p=v)(f: ∀i,i<70+m→i≠p→k.at_ m i=h.at_ m i):(h.cells m).set p v=k.cells m:=by
 apply List.ext_getElem?
 intro i
 rw[List.getElem?_set]
 by_cases b:i<70+m
 ·by_cases c:p=i
  ·subst c
   rw[if_pos rfl,if_pos (by rw[HD.len];exact d),HD.get _ m _ b,g]
  ·rw[if_neg c,HD.get _ m i b,HD.get _ m i b,f i b (fun e=>c e.symm)]
 ·rw[if_neg (by omega),List.getElem?_eq_none (by rw[HD.len];omega),List.getElem?_eq_none (by rw[HD.len];omega)]
theorem aPE (h:HD)(m p:Nat)(v:Int)(b:p=0):(h.cells m).set p (.int .u32 v)=({h with cp:=v}:HD).cells m:=by
 subst b
 refine aAO _ _ m _ _ (by omega) ?_ (fun i hi hne=>?_)
 ·unfold HD.at_
  rfl
 ·unfold HD.at_
  repeat' split
  all_goals first|rfl|(exfalso;omega)
theorem set_ic (h:HD)(m p:Nat)(v:Int)(b:p=1):(h.cells m).set p (.int .u32 v)=({h with ic:=v}:HD).cells m:=by
 subst b
 refine aAO _ _ m _ _ (by omega) ?_ (fun i hi hne=>?_)
 ·unfold HD.at_
  rfl
 ·unfold HD.at_
  repeat' split
  all_goals first|rfl|(exfalso;omega)
theorem set_ta (h:HD)(m p:Nat)(v:Int)(b:p=67+m):(h.cells m).set p (.int .u32 v)=({h with ta:=v}:HD).cells m:=by
 subst b
 refine aAO _ _ m _ _ (by omega) ?_ (fun i hi hne=>?_)
 ·unfold HD.at_
  rw[if_neg (by omega),if_neg (by omega),if_neg (by omega),if_pos rfl]
 ·unfold HD.at_
  repeat' split
  all_goals first|rfl|(exfalso;omega)
theorem set_ti (h:HD)(m p:Nat)(v:Int)(b:p=68+m):(h.cells m).set p (.int .u32 v)=({h with ti:=v}:HD).cells m:=by
 subst b
 refine aAO _ _ m _ _ (by omega) ?_ (fun i hi hne=>?_)
 ·unfold HD.at_
  rw[if_neg (by omega),if_neg (by omega),if_neg (by omega),if_neg (by omega),if_pos rfl]
 ·unfold HD.at_
  repeat' split
  all_goals first|rfl|(exfalso;omega)
theorem set_te (h:HD)(m p:Nat)(v:Int)(b:p=69+m):(h.cells m).set p (.int .u64 v)=({h with te:=v}:HD).cells m:=by
 subst b
 refine aAO _ _ m _ _ (by omega) ?_ (fun i hi hne=>?_)
 ·unfold HD.at_
  rw[if_neg (by omega),if_neg (by omega),if_neg (by omega),if_neg (by omega),if_neg (by omega)]
 ·unfold HD.at_
  repeat' split
  all_goals first|rfl|(exfalso;omega)
end Gp
end Go.Proofs.YtlelnfokffflnaaGreat
