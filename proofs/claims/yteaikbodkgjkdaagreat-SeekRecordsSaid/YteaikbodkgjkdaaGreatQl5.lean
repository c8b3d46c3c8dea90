/-
  Texts beneath.
-/
import Derived.Deep.Cut
import Derived.Lib.SlBytesConst
import Derived.Lib.AppendZerosOnto
import Derived.Test.YteaikbodkgjkdaaGreatQl4
set_option linter.unusedVariables false
set_option linter.unusedSimpArgs false
set_option maxRecDepth 100000
set_option maxHeartbeats 4000000
open Go.ChangeShapes Go.WideShapes Go.ChangeAt Go.RowKit
namespace Go.Proofs.YteaikbodkgjkdaaGreat
namespace Sb
open Bytes8 Blk8 Hm Ha He
theorem aHU (p q r s:Int)(n:Nat)(w:World)(h:(⟨p,q,r,s⟩:Quad).ok)(z:n≤1000):
 Calls Tryz.prog 144 #[.agg #[.int .u64 p,.int .u64 q,.int .u64 r,.int .u64 s],.int .i64 n] w fun e w'=>e= .returned (.agg #[.int .u64 (rounds ⟨p,q,r,s⟩ n).p,.int .u64 (rounds ⟨p,q,r,s⟩ n).q,.int .u64 (rounds ⟨p,q,r,s⟩ n).r,.int .u64 (rounds ⟨p,q,r,s⟩ n).s])∧Below w.heap.size w w':=by
 have t:=yH h
 go_enter Tryz.func144,Tryz.ntmps144
 go_wp2
 go_quiet (fail)
 go_wp2
 go_loop [5,6,7,8,9] (fun a b c d i=> ∃k:Nat,k≤n∧i= .int .i64 k∧a= .int .u64 (rounds ⟨p,q,r,s⟩ k).p∧b= .int .u64 (rounds ⟨p,q,r,s⟩ k).q∧c= .int .u64 (rounds ⟨p,q,r,s⟩ k).r∧d= .int .u64 (rounds ⟨p,q,r,s⟩ k).s) (fun _ _ _ _ i=>n-(intOf i).toNat)
 case atStart=>exact⟨0,Nat.zero_le _,rfl,rfl,rfl,rfl,rfl⟩
 case round=>
  obtain⟨k,A,rfl,rfl,rfl,rfl,rfl⟩:=hrel
  have g:=yH (aDS ⟨p,q,r,s⟩ t.out k)
  by_cases f:k<n
  ·have m:=yH (show rounds ⟨p,q,r,s⟩ (k+1)=round (rounds ⟨p,q,r,s⟩ k)from rfl)
   generalize rounds ⟨p,q,r,s⟩ k=F at*
   obtain⟨P,Q,R,S⟩:=F
   obtain⟨⟨u,j⟩,⟨l,x⟩,⟨r0,r1⟩,⟨y,o⟩⟩:=g.out
   simp only at u j l x r0 r1 y o
   go_wp2_with(go_at_call 175;(with_reducible refine(aPT _ _ _ (by first|assumption|exact(b64 _ _ _).1|exact(aCq _ _).1|exact(aCp _).1|omega) (by first|assumption|exact(b64 _ _ _).2|exact(aCq _ _).2|exact(aCp _).2|omega) (by decide) (by decide)).mono ?_);rintro e w' ⟨rfl,rfl⟩)
   go_round
   case rel=>
    refine⟨k+1,by omega,by go_num,?_,?_,?_,?_⟩<;>rw[m.out]<;>simp[round,add64,xor64,IntKind.wrap_u64]
   case measure=>simp[intOf];omega
  ·obtain rfl:k=n:=by omega
   go_wp2
   generalize rounds ⟨p,q,r,s⟩ k=F at*
   refine bodyPost_ret (v:= .agg #[.int .u64 F.p,.int .u64 F.q,.int .u64 F.r,.int .u64 F.s]) (by simp[results,Tryz.results144,go_sem]) rfl ⟨rfl,?_⟩
   repeat (first|(with_reducible exact yB _ _)|refine Below.setCell ?_ (by simp) _|refine Below.alloc ?_ (by simp) _|refine below_drewN ?_ _)
theorem aGR (K:Nat→Int)(A:Option Addr)(o:Nat)(i:Int)(a:i=o)(c:o≤8)(w:World)(b:Bytes w A (idL K)):
 Calls Tryz.prog 143 #[.slice A 16 16,.int .i64 i] w fun e w'=>e= .returned (.int .u64 (w8 (idL K) o))∧w=w':=by
 subst a;exact aGx A (idL K) 16 16 o w b rfl (by decide) (by omega)
def Four (w0:World)(g:Nat)(f:Quad)(w:World):Prop:=Blk w g [.int .u64 f.p,.int .u64 f.q,.int .u64 f.r,.int .u64 f.s] 253∧Below w0.heap.size w0 w
theorem aEv (f:Quad)(n:Nat)(i:Int)(a:i=n)(b:n≤1000)(w:World)(h:f.ok):
 Calls Tryz.prog 144 #[.agg #[.int .u64 f.p,.int .u64 f.q,.int .u64 f.r,.int .u64 f.s],.int .i64 i] w fun e w'=>e= .returned (.agg #[.int .u64 (rounds f n).p,.int .u64 (rounds f n).q,.int .u64 (rounds f n).r,.int .u64 (rounds f n).s])∧Below w.heap.size w w':=by
 subst a;exact aHU f.p f.q f.r f.s n w h b
theorem aLT (w0 w:World)(g:Nat)(a b c d p q r s e:Value)(f:Quad)(h:Blk w g [p,q,r,s] 253)(l:Below w0.heap.size w0 w)(i:w0.heap.size≤g)(j:e= .int .u64 f.p)(m:b= .int .u64 f.q)(k:c= .int .u64 f.r)(n:d= .int .u64 f.s):
 Four w0 g f (((((w.setCell ⟨g,0,none⟩ a).setCell ⟨g,1,none⟩ b).setCell ⟨g,2,none⟩ c).setCell ⟨g,3,none⟩ d).setCell ⟨g,0,none⟩ e):=by
 subst j;subst m;subst k;subst n
 exact⟨((((h.set_ 0 _).set_ 1 _).set_ 2 _).set_ 3 _).set_ 0 _,((((l.setCell i _).setCell i _).setCell i _).setCell i _).setCell i _⟩
theorem aLU {w0 w:World}{B g:Nat}(h:Below B w0 w)(i:B≤g)(a b c d e f:Value):
 Below B w0 ((((((w.setCell ⟨g,0,none⟩ a).setCell ⟨g,1,none⟩ b).setCell ⟨g,2,none⟩ c).setCell ⟨g,3,none⟩ d).setCell ⟨g,0,none⟩ e).setCell ⟨g,2,none⟩ f):=
 (((((h.setCell i _).setCell i _).setCell i _).setCell i _).setCell i _).setCell i _
theorem aNN {w:World}{g:Nat}{p q r s:Value}{T:TypeId}(h:Blk w g [p,q,r,s] T)(a b c d e f:Value):
 Blk ((((((w.setCell ⟨g,0,none⟩ a).setCell ⟨g,1,none⟩ b).setCell ⟨g,2,none⟩ c).setCell ⟨g,3,none⟩ d).setCell ⟨g,0,none⟩ e).setCell ⟨g,2,none⟩ f) g [e,b,f,d] T:=
 (((((h.set_ 0 _).set_ 1 _).set_ 2 _).set_ 3 _).set_ 0 _).set_ 2 _
theorem aLV (a l:List Int)(k:Nat)(o:Nat)(b:o=8*k):quadAt a l (k+1)=quadPlus (quadAt a l k) (w8 l o):=by subst b;rfl
theorem aGS (f:Quad)(m:Int):quadPlus f m=⟨bits .xor .u64 (rounds ⟨f.p,f.q,f.r,bits .xor .u64 f.s m⟩ 2).p m,(rounds ⟨f.p,f.q,f.r,bits .xor .u64 f.s m⟩ 2).q,(rounds ⟨f.p,f.q,f.r,bits .xor .u64 f.s m⟩ 2).r,(rounds ⟨f.p,f.q,f.r,bits .xor .u64 f.s m⟩ 2).s⟩:=rfl
theorem aJR (f:Quad)(m:Int):sipEnd f m=bits .xor .u64 (bits .xor .u64 (bits .xor .u64 (rounds ⟨bits .xor .u64 (rounds ⟨f.p,f.q,f.r,bits .xor .u64 f.s m⟩ 2).p m,(rounds ⟨f.p,f.q,f.r,bits .xor .u64 f.s m⟩ 2).q,bits .xor .u64 (rounds ⟨f.p,f.q,f.r,bits .xor .u64 f.s m⟩ 2).r 255,(rounds ⟨f.p,f.q,f.r,bits .xor .u64 f.s m⟩ 2).s⟩ 4).p (rounds ⟨bits .xor .u64 (rounds ⟨f.p,f.q,f.r,bits .xor .u64 f.s m⟩ 2).p m,(rounds ⟨f.p,f.q,f.r,bits .xor .u64 f.s m⟩ 2).q,bits .xor .u64 (rounds ⟨f.p,f.q,f.r,bits .xor .u64 f.s m⟩ 2).r 255,(rounds ⟨f.p,f.q,f.r,bits .xor .u64 f.s m⟩ 2).s⟩ 4).q) (rounds ⟨bits .xor .u64 (rounds ⟨f.p,f.q,f.r,bits .xor .u64 f.s m⟩ 2).p m,(rounds ⟨f.p,f.q,f.r,bits .xor .u64 f.s m⟩ 2).q,bits .xor .u64 (rounds ⟨f.p,f.q,f.r,bits .xor .u64 f.s m⟩ 2).r 255,(rounds ⟨f.p,f.q,f.r,bits .xor .u64 f.s m⟩ 2).s⟩ 4).r) (rounds ⟨bits .xor .u64 (rounds ⟨f.p,f.q,f.r,bits .xor .u64 f.s m⟩ 2).p m,(rounds ⟨f.p,f.q,f.r,bits .xor .u64 f.s m⟩ 2).q,bits .xor .u64 (rounds ⟨f.p,f.q,f.r,bits .xor .u64 f.s m⟩ 2).r 255,(rounds ⟨f.p,f.q,f.r,bits .xor .u64 f.s m⟩ 2).s⟩ 4).s:=rfl
set_option maxRecDepth 100000 in
theorem aNO (K:Nat→Int)(A:Option Addr)(l:List Int)(len z:Nat)(w:World)(L:IdOk K)(hb:Bytes w A l)(hL:l.length=len)(ae:len≤800000):
 Calls Tryz.prog 113 #[idV K,.slice A len z] w fun e w'=>e= .returned (.int .u64 (sipS (idL K) l))∧Below w.heap.size w w':=by
 have HK:=yH (aIn 61 K L w)
 have N:=yH (And.intro hb hL)
 have HQ:=yH (aDU (idL K) l)
 clear hb hL
 have ac:=yH fun n=>aBZ (n:=n) (aGR K _ 0 0 rfl (by decide) _ (HK.out.drewN n))
 have aa:=yH fun n=>aBZ (n:=n) (aGR K _ 8 8 rfl (by decide) _ (HK.out.drewN n))
 go_enter Tryz.func113,Tryz.ntmps113
 go_wp2
 go_quiet ((go_at_call 143;first|with_reducible exact ac.out _|with_reducible exact aa.out _))
 go_wp2
 go_loopw [8] (fun i wr=> ∃k o:Nat,Hid (o=8*k)∧o≤len∧i= .int .i64 o∧Hid (Four w (w.heap.size+1) (quadAt (idL K) l k) wr)) (fun i _=>len-(intOf i).toNat)
 case atStart=>exact⟨0,0,yH rfl,Nat.zero_le _,rfl,yH ⟨Blk.new_at _ _ _ _ (by simp),below_drewN ((yB _ _).alloc (yR _) _) _ |>.alloc (by simp) _⟩⟩
 case round=>
  obtain⟨k,o,D,af,rfl,hr⟩:=hrel
  have d:=yH hr.out.1
  have y:=yH hr.out.2
  have hz:=d.out.lt
  have Z:=yH (aGx A l len z o wr (N.out.1.below y.out (yR _)) N.out.2 (by omega) (by omega))
  have t:=yH (HQ.out k)
  have hn:=aLV (idL K) l k o D.out
  rw[aGS]at hn
  have HN:=yH hn
  clear hn
  have x:=yH fun W=>aEv ⟨(quadAt (idL K) l k).p,(quadAt (idL K) l k).q,(quadAt (idL K) l k).r,bits .xor .u64 (quadAt (idL K) l k).s (w8 l o)⟩ 2 2 rfl (by decide) W ⟨t.out.1,t.out.2.1,t.out.2.2.1,b64 .xor _ _⟩
  simp only at x
  have g0:=d.out.cell (i:=0) rfl
  have g1:=d.out.cell (i:=1) rfl
  have g2:=d.out.cell (i:=2) rfl
  have g3:=d.out.cell (i:=3) rfl
  have f0:=d.out.frozen 0
  have f1:=d.out.frozen 1
  have f2:=d.out.frozen 2
  have f3:=d.out.frozen 3
  by_cases h8:o+8≤len
  ·have hd:decide (o+8≤len)=true:=by simpa using h8
   generalize rounds ⟨(quadAt (idL K) l k).p,(quadAt (idL K) l k).q,(quadAt (idL K) l k).r,bits .xor .u64 (quadAt (idL K) l k).s (w8 l o)⟩ 2=G at*
   generalize quadAt (idL K) l k=F at*
   generalize w8 l o=m at*
   go_wp2_with(first|(go_at_call 143;(with_reducible refine Z.out.mono ?_);rintro e w' ⟨rfl,rfl⟩)|(go_at_call 144;(with_reducible refine(x.out _).mono ?_);rintro e w2 ⟨rfl,f⟩;have a:=yH ((d.out.set_ 3 _).below f (by simpa using hz));have H:=a.out.cell (i:=0) rfl;have V:=a.out.cell (i:=1) rfl;have C:=a.out.cell (i:=2) rfl;have X:=a.out.cell (i:=3) rfl;have I:=a.out.frozen 0;have R:=a.out.frozen 1;have B:=a.out.frozen 2;have E:=a.out.frozen 3))
   go_roundw
   case rel=>
    have v:=y.out.size
    refine⟨k+1,o+8,yH (by have:=D.out;omega),by omega,by go_num,yH (aLT w w2 (w.heap.size+1) _ _ _ _ _ _ _ _ _ _ a.out ((y.out.setCell (by simp) _).trans (f.mono (by simpa using v))) (by simp) ?_ ?_ ?_ ?_)⟩<;>rw[HN.out]
   case measure=>simp[intOf];omega
  ·have hd:decide (o+8≤len)=false:=by simpa using h8
   clear HN x
   have L:l.length/8=k:=by rw[N.out.2];have:=D.out;omega
   obtain⟨M,Y⟩: ∃M,bits .or .u64 (w8 l o) ((len:Int)%256*72057594037927936)=M:=⟨_,rfl⟩
   have he:=(show sipS (idL K) l=sipEnd (quadAt (idL K) l k) M by
    unfold sipS last8;rw[L,N.out.2,←D.out,Y])
   rw[aJR]at he
   have HE:=yH he
   clear he
   have x:=yH fun W=>aEv ⟨(quadAt (idL K) l k).p,(quadAt (idL K) l k).q,(quadAt (idL K) l k).r,bits .xor .u64 (quadAt (idL K) l k).s M⟩ 2 2 rfl (by decide) W ⟨t.out.1,t.out.2.1,t.out.2.2.1,b64 .xor _ _⟩
   have HG:=yH (aDS ⟨(quadAt (idL K) l k).p,(quadAt (idL K) l k).q,(quadAt (idL K) l k).r,bits .xor .u64 (quadAt (idL K) l k).s M⟩ ⟨t.out.1,t.out.2.1,t.out.2.2.1,b64 .xor _ _⟩ 2)
   simp only at x
   clear L
   generalize rounds ⟨(quadAt (idL K) l k).p,(quadAt (idL K) l k).q,(quadAt (idL K) l k).r,bits .xor .u64 (quadAt (idL K) l k).s M⟩ 2=G at HE x HG
   generalize quadAt (idL K) l k=F at*
   have j:=yH fun W=>aEv ⟨bits .xor .u64 G.p M,G.q,bits .xor .u64 G.r 255,G.s⟩ 4 4 rfl (by decide) W ⟨b64 .xor _ _,HG.out.2.1,b64 .xor _ _,HG.out.2.2.2⟩
   simp only at j
   generalize rounds ⟨bits .xor .u64 G.p M,G.q,bits .xor .u64 G.r 255,G.s⟩ 4=J at HE j
   generalize w8 l o=m at Z Y
   go_upto_region 15 with(first|(go_at_call 143;(with_reducible refine Z.out.mono ?_);rintro e w' ⟨rfl,rfl⟩)|(go_at_call 144;(with_reducible refine(x.out _).mono ?_);rintro e w2 ⟨rfl,f⟩;have a:=yH ((d.out.set_ 3 _).below f (by simpa using hz));have H:=a.out.cell (i:=0) rfl;have V:=a.out.cell (i:=1) rfl;have C:=a.out.cell (i:=2) rfl;have X:=a.out.cell (i:=3) rfl;have I:=a.out.frozen 0;have R:=a.out.frozen 1;have B:=a.out.frozen 2;have E:=a.out.frozen 3;have ab:=a.out.lt;clear Y g0 g1 g2 g3 f0 f1 f2 f3)|(go_at_call 144;go_must ((with_reducible refine(j.out _).mono ?_);rintro e w4 ⟨rfl,u⟩;have b:=yH ((((((a.out.set_ 0 _).set_ 1 _).set_ 2 _).set_ 3 _).set_ 0 _).set_ 2 _ |>.below u (by simpa using ab));have a0:=b.out.cell (i:=0) rfl;have a1:=b.out.cell (i:=1) rfl;have a2:=b.out.cell (i:=2) rfl;have a3:=b.out.cell (i:=3) rfl;have b0:=b.out.frozen 0;have b1:=b.out.frozen 1;have b2:=b.out.frozen 2;have b3:=b.out.frozen 3;clear H V C X I R B E)))
   have v:=y.out.size
   have k2:Below w.heap.size w w2:=(y.out.setCell (by simp) _).trans (f.mono (by simpa using v))
   have k5:=aLU k2 (g:=w.heap.size+1) (by simp) (.int .u64 G.p) (.int .u64 G.q) (.int .u64 G.r) (.int .u64 G.s) (.int .u64 (bits .xor .u64 G.p M)) (.int .u64 (bits .xor .u64 G.r 255))
   have c:=aNN a.out (.int .u64 G.p) (.int .u64 G.q) (.int .u64 G.r) (.int .u64 G.s) (.int .u64 (bits .xor .u64 G.p M)) (.int .u64 (bits .xor .u64 G.r 255))
   generalize (((((w2.setCell ⟨w.heap.size+1,0,none⟩ (.int .u64 G.p)).setCell ⟨w.heap.size+1,1,none⟩ (.int .u64 G.q)).setCell ⟨w.heap.size+1,2,none⟩ (.int .u64 G.r)).setCell ⟨w.heap.size+1,3,none⟩ (.int .u64 G.s)).setCell ⟨w.heap.size+1,0,none⟩ (.int .u64 (bits .xor .u64 G.p M))).setCell ⟨w.heap.size+1,2,none⟩ (.int .u64 (bits .xor .u64 G.r 255))=w5 at k5 c⊢
   have ad:=c.lt
   have c:=yH c
   have H:=c.out.cell (i:=0) rfl
   have V:=c.out.cell (i:=1) rfl
   have C:=c.out.cell (i:=2) rfl
   have X:=c.out.cell (i:=3) rfl
   have I:=c.out.frozen 0
   have R:=c.out.frozen 1
   have B:=c.out.frozen 2
   have E:=c.out.frozen 3
   go_wp2_with(go_at_call 144;(with_reducible refine(j.out _).mono ?_);rintro e w4 ⟨rfl,u⟩;have b:=yH (c.out.below u ad);have a0:=b.out.cell (i:=0) rfl;have a1:=b.out.cell (i:=1) rfl;have a2:=b.out.cell (i:=2) rfl;have a3:=b.out.cell (i:=3) rfl;have b0:=b.out.frozen 0;have b1:=b.out.frozen 1;have b2:=b.out.frozen 2;have b3:=b.out.frozen 3;clear H V C X I R B E)
   go_ret
   refine⟨aCa HE.out.symm,?_⟩
   have k4:Below w.heap.size w w4:=k5.trans (u.mono (by omega))
   repeat (first|(with_reducible exact k4)|refine Below.setCell ?_ (by simp) _)
end Sb
namespace Sb
end Sb
namespace Sc
open Bytes8 Blk8 LeNum LeA LeB Hm Sa Sm
def SumAt (w:World)(g:Nat)(key l:List Int):Prop:=AllB l∧Blk w g [.int .u64 (quadAt key l (l.length/8)).p,.int .u64 (quadAt key l (l.length/8)).q,.int .u64 (quadAt key l (l.length/8)).r,.int .u64 (quadAt key l (l.length/8)).s,.int .u64 (left8 l),.int .u8 ((l.length:Int)%256)] 358
theorem aLW (K:Nat→Int)(A:Option Addr)(o:Nat)(i:Int)(a:i=o)(c:o+8≤16)(w:World)(b:Bytes w A (idL K)):
 Calls Tryz.prog 183 #[.slice A 16 16,.int .i64 i,.int .i64 8] w fun e w'=>e= .returned (.tuple #[.int .u64 (w8 (idL K) o),.bool true])∧w=w':=by
 subst a
 exact aCZ A (idL K) 16 o 8 w (by simp[idL]) (by simp[fits,isW,idL];omega) b (by decide) (by decide) (by simp[idL];omega)
theorem new_any (K:Nat→Int)(w:World)(d:IdOk K):
 Calls Tryz.prog 230 #[idV K] w fun e w'=>e= .returned (.pointer (some ⟨w.heap.size+1,0,none⟩))∧SumAt w' (w.heap.size+1) (idL K) []∧Below w.heap.size w w':=by
 have c:=yH (aIn 61 K d w)
 have b:=yH (aLW K _ 0 0 rfl (by decide) _ c.out)
 have a:=yH (aLW K _ 8 8 rfl (by decide) _ c.out)
 have f:=yH (show keyed (idL K)=⟨bits .xor .u64 (w8 (idL K) 0) 8317987319222330741,bits .xor .u64 (w8 (idL K) 8) 7237128888997146477,bits .xor .u64 (w8 (idL K) 0) 7816392313619706465,bits .xor .u64 (w8 (idL K) 8) 8387220255154660723⟩from rfl)
 go_enter Tryz.func230,Tryz.ntmps230
 go_wp2_with(first|(go_at_call 183;(with_reducible refine b.out.mono ?_);rintro e w' ⟨rfl,rfl⟩)|(go_at_call 183;(with_reducible refine a.out.mono ?_);rintro e w' ⟨rfl,rfl⟩))
 go_ret
 refine⟨rfl,⟨(fun _ h=>by cases h),?_⟩,((yB _ _).alloc (yR _) _).alloc (by simp) _⟩
 show Blk _ _ [.int .u64 (keyed (idL K)).p,.int .u64 (keyed (idL K)).q,.int .u64 (keyed (idL K)).r,.int .u64 (keyed (idL K)).s,.int .u64 0,.int .u8 0] _
 rw[f.out]
 exact Blk.new_at _ _ _ _ (by simp)
theorem aAP {w w':World}{g:Nat}(h:w.grownBy w' (some g))(i:Nat)(v:Value):w.grownBy (w'.setCell ⟨g,i,none⟩ v) (some g):=
 ⟨h.os,h.tape,h.output,by simpa using h.size,fun k hk hne=>(Below.heap_setCell w' _ v k (by intro e;exact hne (by rw[e]))).trans (h.block k hk hne)⟩
theorem grown_drew {w w':World}{g:Nat}(h:w.grownBy w' (some g)):w.grownBy w'.drew (some g):=⟨h.os,h.tape,h.output,h.size,h.block⟩
theorem grown_below {w w' b:World}{g:Nat}(h:w.grownBy w' (some g))(a:Below w'.heap.size w' b):w.grownBy b (some g):=
 ⟨a.os.trans h.os,a.tape.trans h.tape,a.output.trans h.output,Nat.le_trans h.size a.size,fun k hk hne=>(a.block k (yL hk h.size)).trans (h.block k hk hne)⟩
theorem aLX {w:World}{g:Nat}{p q r s t z:Value}{T:TypeId}(h:Blk w g [p,q,r,s,t,z] T)(a b c d e:Value):
 Blk (((((w.setCell ⟨g,0,none⟩ a).setCell ⟨g,1,none⟩ b).setCell ⟨g,2,none⟩ c).setCell ⟨g,3,none⟩ d).setCell ⟨g,4,none⟩ e) g [a,b,c,d,e,z] T:=
 ((((h.set_ 0 _).set_ 1 _).set_ 2 _).set_ 3 _).set_ 4 _
theorem aNP {w:World}{g:Nat}{p q r s t z:Value}{T:TypeId}(h:Blk w g [p,q,r,s,t,z] T)(a b:Value):
 Blk (((w.setCell ⟨g,4,none⟩ a).drew).setCell ⟨g,5,none⟩ b) g [p,q,r,s,a,b] T:=
 ((h.set_ 4 _).drew).set_ 5 _
set_option maxRecDepth 100000 in
theorem add_any (K:Nat→Int)(g:Nat)(A:Option Addr)(l m:List Int)(len L:Nat)(w:World)(hs:SumAt w g (idL K) l)(M:Bytes w A m)(Y:m.length=len)(aa:len≤1000000)(hA:0<len→ ∀b j,A=some ⟨b,j,none⟩→b≠g):
 Calls Tryz.prog 231 #[.pointer (some ⟨g,0,none⟩),.slice A len L] w fun e w'=>e= .returned (.tuple #[])∧SumAt w' g (idL K) (l++m)∧w.grownBy w' (some g):=by
 have HB:=yH M
 have G:=yH Y
 have HA:=yH hA
 have HS:=yH hs
 clear M Y hA hs
 go_enter Tryz.func231,Tryz.ntmps231
 go_wp2
 go_loopw [8] (fun i wr=> ∃k:Nat,k≤len∧i= .int .i64 k∧Hid (SumAt wr g (idL K) (l++m.take k))∧Hid (w.grownBy wr (some g))) (fun i _=>len-(intOf i).toNat)
 case atStart=>exact⟨0,Nat.zero_le _,rfl,by rw[List.take_zero,List.append_nil];exact HS,yH (World.grownBy.refl _ _)⟩
 case round=>
  obtain⟨k,hk,rfl,hr,y⟩:=hrel
  by_cases r:k<len
  ·have hd:decide (k<len)=true:=by simpa using r
   obtain⟨b,j,rfl,B,hc⟩:=HB.out.2 k (by rw[G.out];exact r)
   have ab:wr.cell? ⟨b,j+k,none⟩=some (.int .u8 (m.getD k 0)):=(World.cell?_of_block (y.out.block b B (by intro h;injection h with h;exact HA.out (by omega) b j rfl h))).trans hc
   clear hc
   obtain⟨c0,c1⟩:=HB.out.1.at_ k
   have hT:=take_snoc m k (by rw[G.out];exact r)
   obtain⟨d,s⟩:=hr.out
   generalize N:l++m.take k=X at*
   have Z:=yH (show l++m.take (k+1)=X++ [m.getD k 0]by rw[hT,←List.append_assoc,N])
   clear hT N
   generalize m.getD k 0=c at*
   obtain⟨z,C⟩: ∃z,(X.length:Int)%256=z:=⟨_,rfl⟩
   rw[C]at s
   have z0:0≤z:=by omega
   have z1:z≤255:=by omega
   have q:=yH C
   clear C
   have R:=yH s
   have g4:=s.cell (i:=4) rfl
   have g5:=s.cell (i:=5) rfl
   have f4:=s.frozen 4
   have f5:=s.frozen 5
   clear s
   have v:(8*(z%8)).toNat=8*(X.length%8):=by have:=q.out;omega
   have u:=aPD X c d c0 c1
   rw[show IntKind.u64.wrap c=c by rw[IntKind.wrap_u64];omega,←v]at u
   have o:=yH (d.app (show AllB [c]from fun n hn=>by simp at hn;subst hn;exact⟨c0,c1⟩))
   obtain⟨V,I⟩: ∃V,left8 X+c*256^(X.length%8)=V:=⟨_,rfl⟩
   rw[I]at u
   have HV:=yH I
   have HQ:=yH (aDU (idL K) X (X.length/8))
   clear v I d
   by_cases J:X.length%8=7
   ·have E:((z+1)%8==0)=true:=by have:=q.out;simp;omega
    have H:((z+1)%256%8==0)=true:=by have:=q.out;simp;omega
    have t:=yH (aJ7 (idL K) X c J)
    clear J
    go_wp2
    go_region
    go_wp2
    have f:Blk ((wr.setCell ⟨g,4,none⟩ (.int .u64 V)).setCell ⟨g,5,none⟩ (.int .u8 ((z+1)%256))).drew g _ _:=((R.out.set_ 4 _).set_ 5 _).drew
    have G2:w.grownBy ((wr.setCell ⟨g,4,none⟩ (.int .u64 V)).setCell ⟨g,5,none⟩ (.int .u8 ((z+1)%256))).drew (some g):=grown_drew (aAP (aAP y.out _ _) _ _)
    simp only[List.set_cons_succ,List.set_cons_zero]at f
    generalize ((wr.setCell ⟨g,4,none⟩ (.int .u64 V)).setCell ⟨g,5,none⟩ (.int .u8 ((z+1)%256))).drew=w2 at f G2⊢
    clear g4 g5 f4 f5
    generalize quadAt (idL K) X (X.length/8)=F at*
    have HP:=yH fun w=>aLF F V w HQ.out
    have e0:=f.cell (i:=0) rfl
    have e1:=f.cell (i:=1) rfl
    have e2:=f.cell (i:=2) rfl
    have e3:=f.cell (i:=3) rfl
    have e4:=f.cell (i:=4) rfl
    have RR:=yH f
    have D:=f.lt
    clear f
    go_region_with (go_at_call 241;(with_reducible refine(HP.out _).mono ?_);rintro e w3 ⟨rfl,x⟩;have a:=yH (RR.out.drew.below x D);have a0:=a.out.cell (i:=0) rfl;have a1:=a.out.cell (i:=1) rfl;have a2:=a.out.cell (i:=2) rfl;have a3:=a.out.cell (i:=3) rfl;have a4:=a.out.cell (i:=4) rfl;have b0:=a.out.frozen 0;have b1:=a.out.frozen 1;have b2:=a.out.frozen 2;have b3:=a.out.frozen 3;have b4:=a.out.frozen 4)
    all_goals
     go_wp2
     go_roundw
     case rel=>
      refine⟨k+1,by omega,by go_num,?_,?_⟩
      ·rw[Z.out]
       refine yH ⟨o.out,?_⟩
       rw[t.out.1,t.out.2,HV.out,show(((X++ [c]).length:Nat):Int)%256=(z+1)%256 by have:=q.out;simp;omega]
       exact aLX a.out _ _ _ _ _
      ·exact yH (aAP (aAP (aAP (aAP (aAP (grown_below (grown_drew G2) x) _ _) _ _) _ _) _ _) _ _)
     case measure=>simp[intOf];omega
   ·have E:((z+1)%8==0)=false:=by have:=q.out;simp;omega
    have H:((z+1)%256%8==0)=false:=by have:=q.out;simp;omega
    have t:=yH (And.intro (aJ8 (idL K) X c (by omega)) (aFX X c (by omega)).2)
    clear J
    go_wp2
    go_region
    go_wp2
    go_roundw
    case rel=>
     refine⟨k+1,by omega,by go_num,?_,?_⟩
     ·rw[Z.out]
      refine yH ⟨o.out,?_⟩
      rw[t.out.1,t.out.2,HV.out,show(((X++ [c]).length:Nat):Int)%256=(z+1)%256 by have:=q.out;simp;omega]
      exact aNP R.out _ _
     ·exact yH (aAP (grown_drew (aAP y.out _ _)) _ _)
    case measure=>simp[intOf];omega
  ·obtain rfl:k=len:=by omega
   have hd:decide (k<k)=false:=by simp
   have p:=hr.out
   rw[List.take_of_length_le (by rw[G.out];exact yR _)]at p
   have HR:=yH p
   clear p
   go_wp2
   go_end0
   exact⟨rfl,HR.out,y.out⟩
end Sc
namespace Sg
open Bytes8 Blk8 Hm Sb Se
def ofS (t:Bool)(key l:List Int):Int:=if t then sipS key l else lookS l
theorem aFO (t:Bool)(K:Nat→Int)(A:Option Addr)(l:List Int)(len b:Nat)(w:World)(i:IdOk K)(c:Bytes w A l)(g:l.length=len)(a:len≤800000):
 Calls Tryz.prog 67 #[.bool t,idV K,.slice A len b] w fun e w'=>e= .returned (.int .u64 (ofS t (idL K) l))∧Below w.heap.size w w':=by
 have j:=yH c
 cases t with
 |true=>
  have f:=yH (aNO K A l len b (w.alloc (idC 61 K)) i (c.below ((yB _ _).alloc (yR _) _) (yR _)) g a)
  clear c
  go_enter Tryz.func67,Tryz.ntmps67
  go_wp2_with(go_at_call 113;(with_reducible refine f.out.mono ?_);rintro e w1 ⟨rfl,d⟩)
  go_ret
  exact⟨rfl,((yB w.heap.size w).alloc (yR _) _).trans (d.mono (by simp))⟩
 |false=>
  have f:=yH (aEs A l len b (w.alloc (idC 61 K)) (c.below ((yB _ _).alloc (yR _) _) (yR _)) g a)
  clear c
  go_enter Tryz.func67,Tryz.ntmps67
  go_wp2_with(go_at_call 114;(with_reducible refine f.out.mono ?_);rintro e w' ⟨rfl,rfl⟩)
  go_ret
  exact⟨rfl,(yB w.heap.size w).alloc (yR _) _⟩
end Sg
namespace Ya
open Bytes8 Blk8 Own8 OwnE Hm Se Rows2
theorem aQa (t:Trio):0≤ans t∧ans t≤18446744073709551615:=b64 _ _ _
theorem aIV (l:List Int):0≤lookS l∧lookS l≤18446744073709551615:=by
 unfold lookS
 split<;>exact aQa _
def lookN (l:List Int):Nat:=(lookS l).toNat
theorem aNQ (l:List Int):lookS l=(lookN l:Int):=by unfold lookN;have:=aIV l;omega
theorem aIW (l:List Int):lookN l<2^64:=by unfold lookN;have:=aIV l;omega
def xr (l:List (List Int)):Nat:=l.foldr (fun p v=>v^^^lookN p) 0
theorem aOn:xr []=0:=rfl
theorem aBt (p:List Int)(l:List (List Int)):xr (p::l)=xr l^^^lookN p:=rfl
theorem aPi (l:List (List Int)):xr l<2^64:=by
 induction l with
 |nil=>decide
 |cons p l ih=>rw[aBt];exact Nat.xor_lt_two_pow ih (aIW p)
theorem aQb (l m:List (List Int)):xr (l++m)=xr l^^^xr m:=by
 induction l with
 |nil=>simp[aOn]
 |cons p l ih=>rw[List.cons_append,aBt,aBt,ih,Nat.xor_assoc,Nat.xor_assoc,Nat.xor_comm (xr m)]
theorem aPj (l:List (List Int))(p:List Int):xr (l++ [p])=xr l^^^lookN p:=by rw[aQb,aBt,aOn,Nat.zero_xor]
def rowsL (P:Nat→List Int)(k:Nat):List (List Int):=(List.range k).map P
theorem aJS (P:Nat→List Int)(k:Nat):rowsL P (k+1)=rowsL P k++ [P k]:=by simp[rowsL,List.range_succ]
theorem aPk (P:Nat→List Int)(k:Nat):xr (rowsL P (k+1))=xr (rowsL P k)^^^lookN (P k):=by rw[aJS,aPj]
theorem aHV (P:Nat→List Int)(k:Nat):bits .xor .u64 ((xr (rowsL P k):Nat):Int) (lookS (P k))=((xr (rowsL P (k+1)):Nat):Int):=by
 rw[aNQ,aPk]
 exact u64_xor_nat _ _ (aPi _) (aIW _)
theorem aPl (a:Option Addr)(n p:Nat)(A:Nat→Option Addr)(L C:Nat→Nat)(P:Nat→List Int)(w:World)(h:InRows w a n A L C P)(D:n≤1000000)(u: ∀r,r<n→L r≤800000):
 Calls Tryz.prog 182 #[.slice a n p] w fun e w'=>e= .returned (.int .u64 ((xr (rowsL P n):Nat):Int))∧Below w.heap.size w w':=by
 have v:=yH h
 clear h
 go_enter Tryz.func182,Tryz.ntmps182
 go_wp2
 go_loopw [3,8] (fun s i wr=> ∃k:Nat,k≤n∧i= .int .i64 (k:Int)∧s= .int .u64 ((xr (rowsL P k):Nat):Int)∧Hid (Below w.heap.size w wr)) (fun _ i _=>n-(intOf i).toNat)
 case atStart=>exact⟨0,Nat.zero_le _,rfl,rfl,yB _ _⟩
 case round=>
  obtain⟨k,E,rfl,rfl,c⟩:=hrel
  by_cases j:k<n
  ·obtain⟨b,t,rfl,B,F,l,q,f,d⟩:=(v.out.below c.out) k j
   have x:=u k j
   have g:=yH (aIT (A k) (P k) (L k) (C k) wr l q (by omega) f d)
   have y:=yH (aHV P k)
   have z:=c.out.size
   clear l q f d
   go_wp2_with(go_at_call 207;(with_reducible refine g.out.mono ?_);rintro e w2 ⟨rfl,m⟩;have o:=yH m;clear m)
   go_roundw
   case rel=>
    exact⟨k+1,by omega,by go_num,by rw[y.out],yH (c.out.trans (o.out.mono z))⟩
   case measure=>simp[intOf];omega
  ·obtain rfl:k=n:=by omega
   go_wp2
   go_ret
   exact⟨rfl,c.out⟩
end Ya
namespace Yb
open OwnE
theorem aOo:Elt 26 139 1 24 (.slice none 0 0):=⟨Tryz.underlying139,by kernel_rfl,rfl,by decide⟩
end Yb
namespace Kf
open Bytes8 Blk8 Own8 OwnA
structure KeptF (F:Nat→Prop)(w w':World):Prop where
 os:w'.os=w.os
 tape:w'.tape=w.tape
 output:w'.output=w.output
 size:w.heap.size≤w'.heap.size
 block: ∀k,k<w.heap.size→ ¬F k→w'.heap[k]? =w.heap[k]?
def None' (k:Nat):Prop:=False
def One (g:Nat)(k:Nat):Prop:=k=g
theorem KeptF.refl (F:Nat→Prop)(w:World):KeptF F w w:=⟨rfl,rfl,rfl,yR _,fun _ _ _=>rfl⟩
theorem KeptF.trans {F G:Nat→Prop}{a b c:World}(h:KeptF F a b)(k:KeptF G b c)(d: ∀i,i<a.heap.size→G i→F i):KeptF F a c:=
 ⟨k.os.trans h.os,k.tape.trans h.tape,k.output.trans h.output,Nat.le_trans h.size k.size,fun i hi hF=>(k.block i (yL hi h.size) (fun hg=>hF (d i hi hg))).trans (h.block i hi hF)⟩
theorem KeptF.mono {F G:Nat→Prop}{w w':World}(h:KeptF F w w')(a: ∀i,F i→G i):KeptF G w w':=
 ⟨h.os,h.tape,h.output,h.size,fun i hi hg=>h.block i hi (fun hf=>hg (a i hf))⟩
theorem KeptF.of_below {F:Nat→Prop}{w w':World}(h:Below w.heap.size w w'):KeptF F w w':=⟨h.os,h.tape,h.output,h.size,fun k hk _=>h.block k hk⟩
theorem KeptF.below {F:Nat→Prop}{B:Nat}{w w':World}(h:KeptF F w w')(b:B≤w.heap.size)(a: ∀k,F k→B≤k):Below B w w':=
 ⟨h.os,h.tape,h.output,h.size,fun k hk=>h.block k (by omega) (fun hf=>by have:=a k hf;omega)⟩
theorem KeptF.alloc {F:Nat→Prop}{a w:World}(h:KeptF F a w)(o:Obj):KeptF F a (w.alloc o):=
 h.trans (G:=None') (KeptF.of_below ((yB _ _).alloc (yR _) o)) fun _ _ h=>h.elim
theorem KeptF.drew {F:Nat→Prop}{a w:World}(h:KeptF F a w):KeptF F a w.drew:=⟨h.os,h.tape,h.output,h.size,h.block⟩
theorem KeptF.setCell {F:Nat→Prop}{a w:World}(h:KeptF F a w){p:Addr}(b:p.block<a.heap.size→F p.block)(u:Value):KeptF F a (w.setCell p u):=
 ⟨h.os,h.tape,h.output,Nat.le_trans h.size (by simp[World.setCell]),fun k hk hF=>(Below.heap_setCell _ _ _ _ (fun e=>hF (by rw[e];exact b (by omega)))).trans (h.block k hk hF)⟩
theorem KeptF.set1 (w:World)(g i:Nat)(u:Value):KeptF (One g) w (w.setCell ⟨g,i,none⟩ u):=(KeptF.refl (One g) w).setCell (p:=⟨g,i,none⟩) (fun _=>(rfl:g=g)) u
theorem KeptF.grown {F:Nat→Prop}{a w w':World}{row:Option Nat}(h:KeptF F a w)(b:w.grownBy w' row)(c: ∀k,row=some k→k<a.heap.size→F k):KeptF F a w':=
 ⟨b.os.trans h.os,b.tape.trans h.tape,b.output.trans h.output,Nat.le_trans h.size b.size,fun k hk hF=>(b.block k (yL hk h.size) (fun e=>hF (c k e.symm hk))).trans (h.block k hk hF)⟩
theorem KeptF.grow {w w':World}(row:Option Nat)(a:w.grownBy w' row):KeptF (fun k=>row=some k) w w':=(KeptF.refl _ w).grown a fun _ h _=>h
theorem Blk.keptF {F:Nat→Prop}{w w':World}{g:Nat}{a:List Value}{T:TypeId}(h:Blk w g a T)(b:KeptF F w w')(c: ¬F g):Blk w' g a T:=(b.block g h.lt c).trans h
theorem Own.keptF {F:Nat→Prop}{w w':World}{base n c:Nat}{A:Option Addr}{l:List Int}(h:Own w base A n c l)(i:KeptF F w w')(o: ∀g,ownB A=some g→ ¬F g):Own w' base A n c l:=by
 refine⟨h.1,h.2.1,Nat.le_trans h.2.2.1 i.size,h.2.2.2.1,?_⟩
 rcases h.2.2.2.2 with a|⟨k,f,b,a,j,e,m⟩
 ·exact .inl a
 ·refine .inr ⟨k,f,b,a,j,?_,m⟩
  have d:k<w.heap.size:=by
   rcases Nat.lt_or_ge k w.heap.size with h|h
   ·exact h
   ·rw[Array.getElem?_eq_none h]at e;cases e
  injection a with e1 e2 e3
  subst e1
  rw[i.block k d (o k rfl)];exact e
end Kf
namespace Yc
open Bytes8 Blk8 Own8 OwnE LeNum RefB Ob Od Rows2 Kf
def ints (f:Nat→Int)(k:Nat):List Int:=(List.range k).map f
theorem ints_succ (f:Nat→Int)(k:Nat):ints f (k+1)=ints f k++ [f k]:=by simp[ints,List.range_succ]
theorem ints_len (f:Nat→Int)(k:Nat):(ints f k).length=k:=by simp[ints]
theorem ints_nums (f:Nat→Int)(k:Nat):nums (ints f (k+1))=nums (ints f k)++lowB (f k) 8:=by rw[ints_succ,aCD]
theorem aFP (f:Nat→Int)(k:Nat):(nums (ints f k)).length=8*k:=by rw[nums_len,ints_len]
theorem rnums_in (y:Option Addr)(n r:Nat)(f:Nat→Int)(w:World)(C:InInts .u64 w y n f)(z:n≤100000):
 Calls Tryz.prog 105 #[.slice y n r] w fun e w'=> ∃A c,e= .returned (.slice A (8*n) c)∧Own w' w.heap.size A (8*n) c (nums (ints f n))∧Below w.heap.size w w':=by
 have E:=yH C
 clear C
 go_enter Tryz.func105,Tryz.ntmps105
 go_wp2
 go_loopw [3,4] (fun s i wr=> ∃(k:Nat) (A:Option Addr) (c:Nat),k≤n∧i= .int .i64 (k:Int)∧s= .slice A (8*k) c∧Hid (Own wr w.heap.size A (8*k) c (nums (ints f k)))∧Hid (Below w.heap.size w wr)) (fun _ i _=>n-(intOf i).toNat)
 case atStart=>exact⟨0,none,0,Nat.zero_le _,rfl,rfl,Own.nil w _ (yR _),yB _ _⟩
 case round=>
  obtain⟨k,A,c,V,rfl,rfl,B,a⟩:=hrel
  by_cases m:k<n
  ·obtain⟨b,H,rfl,R,X,F⟩:=(E.out.below a.out) k m
   obtain⟨D,N⟩:=bounds_u64 F
   have J:=yH (ints_nums f k)
   have v:=a.out.size
   generalize f k=x at*
   have q:=yH fun(W:World)=>aFC x 8 8 W D N (by decide) rfl
   go_wp2_with(first|(go_at_call 104;(with_reducible refine(q.out _).mono ?_);rintro e w2 ⟨M,G,rfl,o,d⟩;have t:=yH o;have l:=yH d;clear o d)|(at_builtin;refine aAd rfl (.tmp 11) (.tmp 16) rfl w.heap.size A (8*k) c (nums (ints f k)) rfl (B.out.kept l.out (yR _)) M 8 G _ rfl t.out.bytes (aAj _ _) (by omega) ?_;intro L I w3 j g;have u:=yH j;have p:=yH g;clear j g))
   go_roundw
   case rel=>
    refine⟨k+1,L,I,by omega,by go_num,rfl,?_,yH ((a.out.trans (l.out.mono v)).trans p.out)⟩
    rw[J.out]
    exact u
   case measure=>simp[intOf];omega
  ·obtain rfl:k=n:=by omega
   go_wp2
   go_ret
   exact⟨A,c,rfl,B.out,a.out⟩
def In2 (w:World)(a:Option Addr)(n:Nat)(f g:Nat→Int):Prop:=
 ∀i,i<n→ ∃b off,a=some ⟨b,off,none⟩∧b<w.heap.size∧w.cell? ⟨b,off+i*2,none⟩=some (.int .u64 (f i))∧w.cell? ⟨b,off+i*2+1,none⟩=some (.int .u64 (g i))∧(0≤f i∧f i≤18446744073709551615)∧(0≤g i∧g i≤18446744073709551615)
theorem In2.keep {w w':World}{a:Option Addr}{n:Nat}{f g:Nat→Int}(h:In2 w a n f g)(j:Below w.heap.size w w'):In2 w' a n f g:=fun i hi=>by
 obtain⟨b,c,e,d,k,m,l⟩:=h i hi
 exact⟨b,c,e,yL d j.size,(j.cell (p:=⟨b,c+i*2,none⟩) d).trans k,(j.cell (p:=⟨b,c+i*2+1,none⟩) d).trans m,l⟩
def prs (f g:Nat→Int)(k:Nat):List Int:=(List.range k).flatMap fun i=>[f i,g i]
theorem aNR (f g:Nat→Int):prs f g 0=[]:=rfl
theorem aB7 (f g:Nat→Int)(k:Nat):prs f g (k+1)=prs f g k++ [f k,g k]:=by simp[prs,List.range_succ,List.flatMap_append]
theorem aFQ (f g:Nat→Int)(k:Nat):(prs f g k).length=2*k:=by
 induction k with
 |zero=>rfl
 |succ k ih=>rw[aB7,yA,ih];simp;omega
theorem aIX (f g:Nat→Int)(k:Nat):nums (prs f g (k+1))=nums (prs f g k)++nums [f k,g k]:=by rw[aB7,aIp]
theorem aDv (f g:Nat→Int)(k:Nat):(nums (prs f g k)).length=16*k:=by rw[nums_len,aFQ];omega
end Yc
end Go.Proofs.YteaikbodkgjkdaaGreat
