/-
  Texts beneath the proof.
-/
import Derived.Deep.Cut
import Derived.Lib.SlBytesConst
import Derived.Lib.AppendZerosOnto
import Derived.Test.YtiddkgcafpaekaaGreatJq4
set_option linter.unusedVariables false
set_option linter.unusedSimpArgs false
set_option maxRecDepth 100000
set_option maxHeartbeats 4000000
open Go.ChangeShapes Go.WideShapes Go.ChangeAt Go.RowKit
namespace Go.Proofs.YtiddkgcafpaekaaGreat
namespace Sb
open Bytes8 Blk8 Hm Ha He
theorem rrounds_any (p q r s:Int)(n:Nat)(w:World)(h:(⟨p,q,r,s⟩:Quad).ok)(hn:n≤1000):
 Calls Tryz.prog 186 #[.agg #[.int .u64 p,.int .u64 q,.int .u64 r,.int .u64 s],.int .i64 n] w fun e w'=>e= .returned (.agg #[.int .u64 (rounds ⟨p,q,r,s⟩ n).p,.int .u64 (rounds ⟨p,q,r,s⟩ n).q,.int .u64 (rounds ⟨p,q,r,s⟩ n).r,.int .u64 (rounds ⟨p,q,r,s⟩ n).s])∧Below w.heap.size w w':=by
 have HF:=yH h
 go_enter Tryz.func186,Tryz.ntmps186
 go_wp2
 go_quiet (fail)
 go_wp2
 go_loop [5,6,7,8,9] (fun a b c d i=> ∃k:Nat,k≤n∧i= .int .i64 k∧a= .int .u64 (rounds ⟨p,q,r,s⟩ k).p∧b= .int .u64 (rounds ⟨p,q,r,s⟩ k).q∧c= .int .u64 (rounds ⟨p,q,r,s⟩ k).r∧d= .int .u64 (rounds ⟨p,q,r,s⟩ k).s) (fun _ _ _ _ i=>n-(intOf i).toNat)
 case atStart=>exact⟨0,Nat.zero_le _,rfl,rfl,rfl,rfl,rfl⟩
 case round=>
  obtain⟨k,hk,rfl,rfl,rfl,rfl,rfl⟩:=hrel
  have HO:=yH (rounds_ok ⟨p,q,r,s⟩ HF.out k)
  by_cases hlt:k<n
  ·have HN:=yH (show rounds ⟨p,q,r,s⟩ (k+1)=round (rounds ⟨p,q,r,s⟩ k)from rfl)
   generalize rounds ⟨p,q,r,s⟩ k=F at*
   obtain⟨P,Q,R,S⟩:=F
   obtain⟨⟨p0,p1⟩,⟨q0,q1⟩,⟨r0,r1⟩,⟨s0,s1⟩⟩:=HO.out
   simp only at p0 p1 q0 q1 r0 r1 s0 s1
   go_wp2_with(go_at_call 226;(with_reducible refine(up_any _ _ _ (by first|assumption|exact(b64 _ _ _).1|exact(rot64_bd _ _).1|exact(wrap64_bd _).1|omega) (by first|assumption|exact(b64 _ _ _).2|exact(rot64_bd _ _).2|exact(wrap64_bd _).2|omega) (by decide) (by decide)).mono ?_);rintro e w' ⟨rfl,rfl⟩)
   go_round
   case rel=>
    refine⟨k+1,by omega,by go_num,?_,?_,?_,?_⟩<;>rw[HN.out]<;>simp[round,add64,xor64,IntKind.wrap_u64]
   case measure=>simp[intOf];omega
  ·obtain rfl:k=n:=by omega
   go_wp2
   generalize rounds ⟨p,q,r,s⟩ k=F at*
   refine bodyPost_ret (v:= .agg #[.int .u64 F.p,.int .u64 F.q,.int .u64 F.r,.int .u64 F.s]) (by simp[results,Tryz.results186,go_sem]) rfl ⟨rfl,?_⟩
   repeat (first|(with_reducible exact Below.refl _ _)|refine Below.setCell ?_ (by simp) _|refine Below.alloc ?_ (by simp) _|refine below_drewN ?_ _)
theorem eight_key (K:Nat→Int)(A:Option Addr)(o:Nat)(i:Int)(hi:i=o)(ho:o≤8)(w:World)(hb:Bytes w A (idL K)):
 Calls Tryz.prog 185 #[.slice A 16 16,.int .i64 i] w fun e w'=>e= .returned (.int .u64 (w8 (idL K) o))∧w=w':=by
 subst hi;exact eight_any A (idL K) 16 16 o w hb rfl (by decide) (by omega)
def Four (w0:World)(g:Nat)(f:Quad)(w:World):Prop:=Blk w g [.int .u64 f.p,.int .u64 f.q,.int .u64 f.r,.int .u64 f.s] 295∧Below w0.heap.size w0 w
theorem rrounds_q (f:Quad)(n:Nat)(i:Int)(hi:i=n)(hn:n≤1000)(w:World)(h:f.ok):
 Calls Tryz.prog 186 #[.agg #[.int .u64 f.p,.int .u64 f.q,.int .u64 f.r,.int .u64 f.s],.int .i64 i] w fun e w'=>e= .returned (.agg #[.int .u64 (rounds f n).p,.int .u64 (rounds f n).q,.int .u64 (rounds f n).r,.int .u64 (rounds f n).s])∧Below w.heap.size w w':=by
 subst hi;exact rrounds_any f.p f.q f.r f.s n w h hn
theorem four_step (w0 w:World)(g:Nat)(a b c d p q r s e:Value)(f:Quad)(h:Blk w g [p,q,r,s] 295)(hb:Below w0.heap.size w0 w)(hg:w0.heap.size≤g)(e0:e= .int .u64 f.p)(e1:b= .int .u64 f.q)(e2:c= .int .u64 f.r)(e3:d= .int .u64 f.s):
 Four w0 g f (((((w.setCell ⟨g,0,none⟩ a).setCell ⟨g,1,none⟩ b).setCell ⟨g,2,none⟩ c).setCell ⟨g,3,none⟩ d).setCell ⟨g,0,none⟩ e):=by
 subst e0;subst e1;subst e2;subst e3
 exact⟨((((h.set_ 0 _).set_ 1 _).set_ 2 _).set_ 3 _).set_ 0 _,((((hb.setCell hg _).setCell hg _).setCell hg _).setCell hg _).setCell hg _⟩
theorem six_below {w0 w:World}{B g:Nat}(h:Below B w0 w)(hg:B≤g)(a b c d e f:Value):
 Below B w0 ((((((w.setCell ⟨g,0,none⟩ a).setCell ⟨g,1,none⟩ b).setCell ⟨g,2,none⟩ c).setCell ⟨g,3,none⟩ d).setCell ⟨g,0,none⟩ e).setCell ⟨g,2,none⟩ f):=
 (((((h.setCell hg _).setCell hg _).setCell hg _).setCell hg _).setCell hg _).setCell hg _
theorem six_sets {w:World}{g:Nat}{p q r s:Value}{T:TypeId}(h:Blk w g [p,q,r,s] T)(a b c d e f:Value):
 Blk ((((((w.setCell ⟨g,0,none⟩ a).setCell ⟨g,1,none⟩ b).setCell ⟨g,2,none⟩ c).setCell ⟨g,3,none⟩ d).setCell ⟨g,0,none⟩ e).setCell ⟨g,2,none⟩ f) g [e,b,f,d] T:=
 (((((h.set_ 0 _).set_ 1 _).set_ 2 _).set_ 3 _).set_ 0 _).set_ 2 _
theorem quad_next (key l:List Int)(k:Nat)(o:Nat)(ho:o=8*k):quadAt key l (k+1)=quadPlus (quadAt key l k) (w8 l o):=by subst ho;rfl
theorem quadPlus_two (f:Quad)(m:Int):quadPlus f m=⟨bits .xor .u64 (rounds ⟨f.p,f.q,f.r,bits .xor .u64 f.s m⟩ 2).p m,(rounds ⟨f.p,f.q,f.r,bits .xor .u64 f.s m⟩ 2).q,(rounds ⟨f.p,f.q,f.r,bits .xor .u64 f.s m⟩ 2).r,(rounds ⟨f.p,f.q,f.r,bits .xor .u64 f.s m⟩ 2).s⟩:=rfl
theorem sipEnd_two (f:Quad)(m:Int):sipEnd f m=bits .xor .u64 (bits .xor .u64 (bits .xor .u64 (rounds ⟨bits .xor .u64 (rounds ⟨f.p,f.q,f.r,bits .xor .u64 f.s m⟩ 2).p m,(rounds ⟨f.p,f.q,f.r,bits .xor .u64 f.s m⟩ 2).q,bits .xor .u64 (rounds ⟨f.p,f.q,f.r,bits .xor .u64 f.s m⟩ 2).r 255,(rounds ⟨f.p,f.q,f.r,bits .xor .u64 f.s m⟩ 2).s⟩ 4).p (rounds ⟨bits .xor .u64 (rounds ⟨f.p,f.q,f.r,bits .xor .u64 f.s m⟩ 2).p m,(rounds ⟨f.p,f.q,f.r,bits .xor .u64 f.s m⟩ 2).q,bits .xor .u64 (rounds ⟨f.p,f.q,f.r,bits .xor .u64 f.s m⟩ 2).r 255,(rounds ⟨f.p,f.q,f.r,bits .xor .u64 f.s m⟩ 2).s⟩ 4).q) (rounds ⟨bits .xor .u64 (rounds ⟨f.p,f.q,f.r,bits .xor .u64 f.s m⟩ 2).p m,(rounds ⟨f.p,f.q,f.r,bits .xor .u64 f.s m⟩ 2).q,bits .xor .u64 (rounds ⟨f.p,f.q,f.r,bits .xor .u64 f.s m⟩ 2).r 255,(rounds ⟨f.p,f.q,f.r,bits .xor .u64 f.s m⟩ 2).s⟩ 4).r) (rounds ⟨bits .xor .u64 (rounds ⟨f.p,f.q,f.r,bits .xor .u64 f.s m⟩ 2).p m,(rounds ⟨f.p,f.q,f.r,bits .xor .u64 f.s m⟩ 2).q,bits .xor .u64 (rounds ⟨f.p,f.q,f.r,bits .xor .u64 f.s m⟩ 2).r 255,(rounds ⟨f.p,f.q,f.r,bits .xor .u64 f.s m⟩ 2).s⟩ 4).s:=rfl
set_option maxRecDepth 100000 in
theorem rsip_any (K:Nat→Int)(A:Option Addr)(l:List Int)(len cap:Nat)(w:World)(hk:IdOk K)(hb:Bytes w A l)(hL:l.length=len)(hmax:len≤800000):
 Calls Tryz.prog 151 #[idV K,.slice A len cap] w fun e w'=>e= .returned (.int .u64 (sipS (idL K) l))∧Below w.heap.size w w':=by
 have HK:=yH (id_boxed 37 K hk w)
 have HB:=yH (And.intro hb hL)
 have HQ:=yH (quadAt_ok (idL K) l)
 clear hb hL
 have HE0:=yH fun n=>quiet_kept (n:=n) (eight_key K _ 0 0 rfl (by decide) _ (HK.out.drewN n))
 have HE8:=yH fun n=>quiet_kept (n:=n) (eight_key K _ 8 8 rfl (by decide) _ (HK.out.drewN n))
 go_enter Tryz.func151,Tryz.ntmps151
 go_wp2
 go_quiet ((go_at_call 185;first|with_reducible exact HE0.out _|with_reducible exact HE8.out _))
 go_wp2
 go_loopw [8] (fun i wr=> ∃k o:Nat,Hid (o=8*k)∧o≤len∧i= .int .i64 o∧Hid (Four w (w.heap.size+1) (quadAt (idL K) l k) wr)) (fun i _=>len-(intOf i).toNat)
 case atStart=>exact⟨0,0,yH rfl,Nat.zero_le _,rfl,yH ⟨Blk.new_at _ _ _ _ (by simp),below_drewN ((Below.refl _ _).alloc (yR _) _) _ |>.alloc (by simp) _⟩⟩
 case round=>
  obtain⟨k,o,ho,hlt,rfl,hr⟩:=hrel
  have R1:=yH hr.out.1
  have R2:=yH hr.out.2
  have hz:=R1.out.lt
  have HM:=yH (eight_any A l len cap o wr (HB.out.1.below R2.out (yR _)) HB.out.2 (by omega) (by omega))
  have HO:=yH (HQ.out k)
  have hn:=quad_next (idL K) l k o ho.out
  rw[quadPlus_two]at hn
  have HN:=yH hn
  clear hn
  have HR:=yH fun W=>rrounds_q ⟨(quadAt (idL K) l k).p,(quadAt (idL K) l k).q,(quadAt (idL K) l k).r,bits .xor .u64 (quadAt (idL K) l k).s (w8 l o)⟩ 2 2 rfl (by decide) W ⟨HO.out.1,HO.out.2.1,HO.out.2.2.1,b64 .xor _ _⟩
  simp only at HR
  have g0:=R1.out.cell (i:=0) rfl
  have g1:=R1.out.cell (i:=1) rfl
  have g2:=R1.out.cell (i:=2) rfl
  have g3:=R1.out.cell (i:=3) rfl
  have f0:=R1.out.frozen 0
  have f1:=R1.out.frozen 1
  have f2:=R1.out.frozen 2
  have f3:=R1.out.frozen 3
  by_cases h8:o+8≤len
  ·have hd:decide (o+8≤len)=true:=by simpa using h8
   generalize rounds ⟨(quadAt (idL K) l k).p,(quadAt (idL K) l k).q,(quadAt (idL K) l k).r,bits .xor .u64 (quadAt (idL K) l k).s (w8 l o)⟩ 2=G at*
   generalize quadAt (idL K) l k=F at*
   generalize w8 l o=m at*
   go_wp2_with(first|(go_at_call 185;(with_reducible refine HM.out.mono ?_);rintro e w' ⟨rfl,rfl⟩)|(go_at_call 186;(with_reducible refine(HR.out _).mono ?_);rintro e w2 ⟨rfl,hb2⟩;have R3:=yH ((R1.out.set_ 3 _).below hb2 (by simpa using hz));have c0:=R3.out.cell (i:=0) rfl;have c1:=R3.out.cell (i:=1) rfl;have c2:=R3.out.cell (i:=2) rfl;have c3:=R3.out.cell (i:=3) rfl;have h0:=R3.out.frozen 0;have h1:=R3.out.frozen 1;have h2:=R3.out.frozen 2;have h3:=R3.out.frozen 3))
   go_roundw
   case rel=>
    have hzw:=R2.out.size
    refine⟨k+1,o+8,yH (by have:=ho.out;omega),by omega,by go_num,yH (four_step w w2 (w.heap.size+1) _ _ _ _ _ _ _ _ _ _ R3.out ((R2.out.setCell (by simp) _).trans (hb2.mono (by simpa using hzw))) (by simp) ?_ ?_ ?_ ?_)⟩<;>rw[HN.out]
   case measure=>simp[intOf];omega
  ·have hd:decide (o+8≤len)=false:=by simpa using h8
   clear HN HR
   have hk:l.length/8=k:=by rw[HB.out.2];have:=ho.out;omega
   obtain⟨M,hM⟩: ∃M,bits .or .u64 (w8 l o) ((len:Int)%256*72057594037927936)=M:=⟨_,rfl⟩
   have he:=(show sipS (idL K) l=sipEnd (quadAt (idL K) l k) M by
    unfold sipS last8;rw[hk,HB.out.2,←ho.out,hM])
   rw[sipEnd_two]at he
   have HE:=yH he
   clear he
   have HR:=yH fun W=>rrounds_q ⟨(quadAt (idL K) l k).p,(quadAt (idL K) l k).q,(quadAt (idL K) l k).r,bits .xor .u64 (quadAt (idL K) l k).s M⟩ 2 2 rfl (by decide) W ⟨HO.out.1,HO.out.2.1,HO.out.2.2.1,b64 .xor _ _⟩
   have HG:=yH (rounds_ok ⟨(quadAt (idL K) l k).p,(quadAt (idL K) l k).q,(quadAt (idL K) l k).r,bits .xor .u64 (quadAt (idL K) l k).s M⟩ ⟨HO.out.1,HO.out.2.1,HO.out.2.2.1,b64 .xor _ _⟩ 2)
   simp only at HR
   clear hk
   generalize rounds ⟨(quadAt (idL K) l k).p,(quadAt (idL K) l k).q,(quadAt (idL K) l k).r,bits .xor .u64 (quadAt (idL K) l k).s M⟩ 2=G at HE HR HG
   generalize quadAt (idL K) l k=F at*
   have HR4:=yH fun W=>rrounds_q ⟨bits .xor .u64 G.p M,G.q,bits .xor .u64 G.r 255,G.s⟩ 4 4 rfl (by decide) W ⟨b64 .xor _ _,HG.out.2.1,b64 .xor _ _,HG.out.2.2.2⟩
   simp only at HR4
   generalize rounds ⟨bits .xor .u64 G.p M,G.q,bits .xor .u64 G.r 255,G.s⟩ 4=J at HE HR4
   generalize w8 l o=m at HM hM
   go_upto_region 15 with(first|(go_at_call 185;(with_reducible refine HM.out.mono ?_);rintro e w' ⟨rfl,rfl⟩)|(go_at_call 186;(with_reducible refine(HR.out _).mono ?_);rintro e w2 ⟨rfl,hb2⟩;have R3:=yH ((R1.out.set_ 3 _).below hb2 (by simpa using hz));have c0:=R3.out.cell (i:=0) rfl;have c1:=R3.out.cell (i:=1) rfl;have c2:=R3.out.cell (i:=2) rfl;have c3:=R3.out.cell (i:=3) rfl;have h0:=R3.out.frozen 0;have h1:=R3.out.frozen 1;have h2:=R3.out.frozen 2;have h3:=R3.out.frozen 3;have hz2:=R3.out.lt;clear hM g0 g1 g2 g3 f0 f1 f2 f3)|(go_at_call 186;go_must ((with_reducible refine(HR4.out _).mono ?_);rintro e w4 ⟨rfl,hb4⟩;have R4:=yH ((((((R3.out.set_ 0 _).set_ 1 _).set_ 2 _).set_ 3 _).set_ 0 _).set_ 2 _ |>.below hb4 (by simpa using hz2));have a0:=R4.out.cell (i:=0) rfl;have a1:=R4.out.cell (i:=1) rfl;have a2:=R4.out.cell (i:=2) rfl;have a3:=R4.out.cell (i:=3) rfl;have b0:=R4.out.frozen 0;have b1:=R4.out.frozen 1;have b2:=R4.out.frozen 2;have b3:=R4.out.frozen 3;clear c0 c1 c2 c3 h0 h1 h2 h3)))
   have hzw:=R2.out.size
   have k2:Below w.heap.size w w2:=(R2.out.setCell (by simp) _).trans (hb2.mono (by simpa using hzw))
   have k5:=six_below k2 (g:=w.heap.size+1) (by simp) (.int .u64 G.p) (.int .u64 G.q) (.int .u64 G.r) (.int .u64 G.s) (.int .u64 (bits .xor .u64 G.p M)) (.int .u64 (bits .xor .u64 G.r 255))
   have R5:=six_sets R3.out (.int .u64 G.p) (.int .u64 G.q) (.int .u64 G.r) (.int .u64 G.s) (.int .u64 (bits .xor .u64 G.p M)) (.int .u64 (bits .xor .u64 G.r 255))
   generalize (((((w2.setCell ⟨w.heap.size+1,0,none⟩ (.int .u64 G.p)).setCell ⟨w.heap.size+1,1,none⟩ (.int .u64 G.q)).setCell ⟨w.heap.size+1,2,none⟩ (.int .u64 G.r)).setCell ⟨w.heap.size+1,3,none⟩ (.int .u64 G.s)).setCell ⟨w.heap.size+1,0,none⟩ (.int .u64 (bits .xor .u64 G.p M))).setCell ⟨w.heap.size+1,2,none⟩ (.int .u64 (bits .xor .u64 G.r 255))=w5 at k5 R5⊢
   have hz5:=R5.lt
   have R5:=yH R5
   have c0:=R5.out.cell (i:=0) rfl
   have c1:=R5.out.cell (i:=1) rfl
   have c2:=R5.out.cell (i:=2) rfl
   have c3:=R5.out.cell (i:=3) rfl
   have h0:=R5.out.frozen 0
   have h1:=R5.out.frozen 1
   have h2:=R5.out.frozen 2
   have h3:=R5.out.frozen 3
   go_wp2_with(go_at_call 186;(with_reducible refine(HR4.out _).mono ?_);rintro e w4 ⟨rfl,hb4⟩;have R4:=yH (R5.out.below hb4 hz5);have a0:=R4.out.cell (i:=0) rfl;have a1:=R4.out.cell (i:=1) rfl;have a2:=R4.out.cell (i:=2) rfl;have a3:=R4.out.cell (i:=3) rfl;have b0:=R4.out.frozen 0;have b1:=R4.out.frozen 1;have b2:=R4.out.frozen 2;have b3:=R4.out.frozen 3;clear c0 c1 c2 c3 h0 h1 h2 h3)
   go_ret
   refine⟨ret_int HE.out.symm,?_⟩
   have k4:Below w.heap.size w w4:=k5.trans (hb4.mono (by omega))
   repeat (first|(with_reducible exact k4)|refine Below.setCell ?_ (by simp) _)
end Sb
namespace Sb
end Sb
namespace Sc
open Bytes8 Blk8 LeNum LeA LeB Hm Sa Sm
def SumAt (w:World)(g:Nat)(key l:List Int):Prop:=AllB l∧Blk w g [.int .u64 (quadAt key l (l.length/8)).p,.int .u64 (quadAt key l (l.length/8)).q,.int .u64 (quadAt key l (l.length/8)).r,.int .u64 (quadAt key l (l.length/8)).s,.int .u64 (left8 l),.int .u8 ((l.length:Int)%256)] 329
theorem get_key (K:Nat→Int)(A:Option Addr)(o:Nat)(i:Int)(hi:i=o)(ho:o+8≤16)(w:World)(hb:Bytes w A (idL K)):
 Calls Tryz.prog 69 #[.slice A 16 16,.int .i64 i,.int .i64 8] w fun e w'=>e= .returned (.tuple #[.int .u64 (w8 (idL K) o),.bool true])∧w=w':=by
 subst hi
 exact get_yes A (idL K) 16 o 8 w (by simp[idL]) (by simp[fits,isW,idL];omega) hb (by decide) (by decide) (by simp[idL];omega)
theorem new_any (K:Nat→Int)(w:World)(hk:IdOk K):
 Calls Tryz.prog 171 #[idV K] w fun e w'=>e= .returned (.pointer (some ⟨w.heap.size+1,0,none⟩))∧SumAt w' (w.heap.size+1) (idL K) []∧Below w.heap.size w w':=by
 have HK:=yH (id_boxed 37 K hk w)
 have HG0:=yH (get_key K _ 0 0 rfl (by decide) _ HK.out)
 have HG8:=yH (get_key K _ 8 8 rfl (by decide) _ HK.out)
 have HE:=yH (show keyed (idL K)=⟨bits .xor .u64 (w8 (idL K) 0) 8317987319222330741,bits .xor .u64 (w8 (idL K) 8) 7237128888997146477,bits .xor .u64 (w8 (idL K) 0) 7816392313619706465,bits .xor .u64 (w8 (idL K) 8) 8387220255154660723⟩from rfl)
 go_enter Tryz.func171,Tryz.ntmps171
 go_wp2_with(first|(go_at_call 69;(with_reducible refine HG0.out.mono ?_);rintro e w' ⟨rfl,rfl⟩)|(go_at_call 69;(with_reducible refine HG8.out.mono ?_);rintro e w' ⟨rfl,rfl⟩))
 go_ret
 refine⟨rfl,⟨(fun _ h=>by cases h),?_⟩,((Below.refl _ _).alloc (yR _) _).alloc (by simp) _⟩
 show Blk _ _ [.int .u64 (keyed (idL K)).p,.int .u64 (keyed (idL K)).q,.int .u64 (keyed (idL K)).r,.int .u64 (keyed (idL K)).s,.int .u64 0,.int .u8 0] _
 rw[HE.out]
 exact Blk.new_at _ _ _ _ (by simp)
theorem grown_set {w w':World}{g:Nat}(h:w.grownBy w' (some g))(i:Nat)(v:Value):w.grownBy (w'.setCell ⟨g,i,none⟩ v) (some g):=
 ⟨h.os,h.tape,h.output,by simpa using h.size,fun k hk hne=>(Below.heap_setCell w' _ v k (by intro e;exact hne (by rw[e]))).trans (h.block k hk hne)⟩
theorem grown_drew {w w':World}{g:Nat}(h:w.grownBy w' (some g)):w.grownBy w'.drew (some g):=⟨h.os,h.tape,h.output,h.size,h.block⟩
theorem grown_below {w w' w'':World}{g:Nat}(h:w.grownBy w' (some g))(hb:Below w'.heap.size w' w''):w.grownBy w'' (some g):=
 ⟨hb.os.trans h.os,hb.tape.trans h.tape,hb.output.trans h.output,Nat.le_trans h.size hb.size,fun k hk hne=>(hb.block k (yL hk h.size)).trans (h.block k hk hne)⟩
theorem five_sets {w:World}{g:Nat}{p q r s t z:Value}{T:TypeId}(h:Blk w g [p,q,r,s,t,z] T)(a b c d e:Value):
 Blk (((((w.setCell ⟨g,0,none⟩ a).setCell ⟨g,1,none⟩ b).setCell ⟨g,2,none⟩ c).setCell ⟨g,3,none⟩ d).setCell ⟨g,4,none⟩ e) g [a,b,c,d,e,z] T:=
 ((((h.set_ 0 _).set_ 1 _).set_ 2 _).set_ 3 _).set_ 4 _
theorem two_sets {w:World}{g:Nat}{p q r s t z:Value}{T:TypeId}(h:Blk w g [p,q,r,s,t,z] T)(a b:Value):
 Blk (((w.setCell ⟨g,4,none⟩ a).drew).setCell ⟨g,5,none⟩ b) g [p,q,r,s,a,b] T:=
 ((h.set_ 4 _).drew).set_ 5 _
set_option maxRecDepth 100000 in
theorem add_any (K:Nat→Int)(g:Nat)(A:Option Addr)(l m:List Int)(len cap:Nat)(w:World)(hs:SumAt w g (idL K) l)(hb:Bytes w A m)(hL:m.length=len)(hmax:len≤1000000)(hA:0<len→ ∀b off,A=some ⟨b,off,none⟩→b≠g):
 Calls Tryz.prog 172 #[.pointer (some ⟨g,0,none⟩),.slice A len cap] w fun e w'=>e= .returned (.tuple #[])∧SumAt w' g (idL K) (l++m)∧w.grownBy w' (some g):=by
 have HB:=yH hb
 have HL:=yH hL
 have HA:=yH hA
 have HS:=yH hs
 clear hb hL hA hs
 go_enter Tryz.func172,Tryz.ntmps172
 go_wp2
 go_loopw [8] (fun i wr=> ∃k:Nat,k≤len∧i= .int .i64 k∧Hid (SumAt wr g (idL K) (l++m.take k))∧Hid (w.grownBy wr (some g))) (fun i _=>len-(intOf i).toNat)
 case atStart=>exact⟨0,Nat.zero_le _,rfl,by rw[List.take_zero,List.append_nil];exact HS,yH (World.grownBy.refl _ _)⟩
 case round=>
  obtain⟨k,hk,rfl,hr,hg⟩:=hrel
  by_cases hlt:k<len
  ·have hd:decide (k<len)=true:=by simpa using hlt
   obtain⟨b,off,rfl,hbl,hc⟩:=HB.out.2 k (by rw[HL.out];exact hlt)
   have hc':wr.cell? ⟨b,off+k,none⟩=some (.int .u8 (m.getD k 0)):=(World.cell?_of_block (hg.out.block b hbl (by intro h;injection h with h;exact HA.out (by omega) b off rfl h))).trans hc
   clear hc
   obtain⟨c0,c1⟩:=HB.out.1.at_ k
   have hT:=take_snoc m k (by rw[HL.out];exact hlt)
   obtain⟨hAll,hB⟩:=hr.out
   generalize hX:l++m.take k=X at*
   have HN:=yH (show l++m.take (k+1)=X++ [m.getD k 0]by rw[hT,←List.append_assoc,hX])
   clear hT hX
   generalize m.getD k 0=c at*
   obtain⟨z,hz⟩: ∃z,(X.length:Int)%256=z:=⟨_,rfl⟩
   rw[hz]at hB
   have z0:0≤z:=by omega
   have z1:z≤255:=by omega
   have HZ:=yH hz
   clear hz
   have R:=yH hB
   have g4:=hB.cell (i:=4) rfl
   have g5:=hB.cell (i:=5) rfl
   have f4:=hB.frozen 4
   have f5:=hB.frozen 5
   clear hB
   have hsh:(8*(z%8)).toNat=8*(X.length%8):=by have:=HZ.out;omega
   have hor:=or_top X c hAll c0 c1
   rw[show IntKind.u64.wrap c=c by rw[IntKind.wrap_u64];omega,←hsh]at hor
   have HAll:=yH (hAll.app (show AllB [c]from fun n hn=>by simp at hn;subst hn;exact⟨c0,c1⟩))
   obtain⟨V,hV⟩: ∃V,left8 X+c*256^(X.length%8)=V:=⟨_,rfl⟩
   rw[hV]at hor
   have HV:=yH hV
   have HQ:=yH (quadAt_ok (idL K) X (X.length/8))
   clear hsh hV hAll
   by_cases h7:X.length%8=7
   ·have ht1:((z+1)%8==0)=true:=by have:=HZ.out;simp;omega
    have ht2:((z+1)%256%8==0)=true:=by have:=HZ.out;simp;omega
    have HM:=yH (more_full (idL K) X c h7)
    clear h7
    go_wp2
    go_region
    go_wp2
    have R2:Blk ((wr.setCell ⟨g,4,none⟩ (.int .u64 V)).setCell ⟨g,5,none⟩ (.int .u8 ((z+1)%256))).drew g _ _:=((R.out.set_ 4 _).set_ 5 _).drew
    have G2:w.grownBy ((wr.setCell ⟨g,4,none⟩ (.int .u64 V)).setCell ⟨g,5,none⟩ (.int .u8 ((z+1)%256))).drew (some g):=grown_drew (grown_set (grown_set hg.out _ _) _ _)
    simp only[List.set_cons_succ,List.set_cons_zero]at R2
    generalize ((wr.setCell ⟨g,4,none⟩ (.int .u64 V)).setCell ⟨g,5,none⟩ (.int .u8 ((z+1)%256))).drew=w2 at R2 G2⊢
    clear g4 g5 f4 f5
    generalize quadAt (idL K) X (X.length/8)=F at*
    have HP:=yH fun w=>qplus_q F V w HQ.out
    have e0:=R2.cell (i:=0) rfl
    have e1:=R2.cell (i:=1) rfl
    have e2:=R2.cell (i:=2) rfl
    have e3:=R2.cell (i:=3) rfl
    have e4:=R2.cell (i:=4) rfl
    have RR:=yH R2
    have hz2:=R2.lt
    clear R2
    go_region_with (go_at_call 214;(with_reducible refine(HP.out _).mono ?_);rintro e w3 ⟨rfl,hb3⟩;have R3:=yH (RR.out.drew.below hb3 hz2);have a0:=R3.out.cell (i:=0) rfl;have a1:=R3.out.cell (i:=1) rfl;have a2:=R3.out.cell (i:=2) rfl;have a3:=R3.out.cell (i:=3) rfl;have a4:=R3.out.cell (i:=4) rfl;have b0:=R3.out.frozen 0;have b1:=R3.out.frozen 1;have b2:=R3.out.frozen 2;have b3:=R3.out.frozen 3;have b4:=R3.out.frozen 4)
    all_goals
     go_wp2
     go_roundw
     case rel=>
      refine⟨k+1,by omega,by go_num,?_,?_⟩
      ·rw[HN.out]
       refine yH ⟨HAll.out,?_⟩
       rw[HM.out.1,HM.out.2,HV.out,show(((X++ [c]).length:Nat):Int)%256=(z+1)%256 by have:=HZ.out;simp;omega]
       exact five_sets R3.out _ _ _ _ _
      ·exact yH (grown_set (grown_set (grown_set (grown_set (grown_set (grown_below (grown_drew G2) hb3) _ _) _ _) _ _) _ _) _ _)
     case measure=>simp[intOf];omega
   ·have ht1:((z+1)%8==0)=false:=by have:=HZ.out;simp;omega
    have ht2:((z+1)%256%8==0)=false:=by have:=HZ.out;simp;omega
    have HM:=yH (And.intro (more_none (idL K) X c (by omega)) (more_left X c (by omega)).2)
    clear h7
    go_wp2
    go_region
    go_wp2
    go_roundw
    case rel=>
     refine⟨k+1,by omega,by go_num,?_,?_⟩
     ·rw[HN.out]
      refine yH ⟨HAll.out,?_⟩
      rw[HM.out.1,HM.out.2,HV.out,show(((X++ [c]).length:Nat):Int)%256=(z+1)%256 by have:=HZ.out;simp;omega]
      exact two_sets R.out _ _
     ·exact yH (grown_set (grown_drew (grown_set hg.out _ _)) _ _)
    case measure=>simp[intOf];omega
  ·obtain rfl:k=len:=by omega
   have hd:decide (k<k)=false:=by simp
   have hr1:=hr.out
   rw[List.take_of_length_le (by rw[HL.out];exact yR _)]at hr1
   have HR:=yH hr1
   clear hr1
   go_wp2
   go_end0
   exact⟨rfl,HR.out,hg.out⟩
end Sc
namespace Sg
open Bytes8 Blk8 Hm Sb Se
def ofS (t:Bool)(key l:List Int):Int:=if t then sipS key l else lookS l
theorem rof_any (t:Bool)(K:Nat→Int)(A:Option Addr)(l:List Int)(len cap:Nat)(w:World)(hk:IdOk K)(hb:Bytes w A l)(hL:l.length=len)(hmax:len≤800000):
 Calls Tryz.prog 99 #[.bool t,idV K,.slice A len cap] w fun e w'=>e= .returned (.int .u64 (ofS t (idL K) l))∧Below w.heap.size w w':=by
 have HB:=yH hb
 cases t with
 |true=>
  have HC:=yH (rsip_any K A l len cap (w.alloc (idC 37 K)) hk (hb.below ((Below.refl _ _).alloc (yR _) _) (yR _)) hL hmax)
  clear hb
  go_enter Tryz.func99,Tryz.ntmps99
  go_wp2_with(go_at_call 151;(with_reducible refine HC.out.mono ?_);rintro e w1 ⟨rfl,hb1⟩)
  go_ret
  exact⟨rfl,((Below.refl w.heap.size w).alloc (yR _) _).trans (hb1.mono (by simp))⟩
 |false=>
  have HC:=yH (rlook_all A l len cap (w.alloc (idC 37 K)) (hb.below ((Below.refl _ _).alloc (yR _) _) (yR _)) hL hmax)
  clear hb
  go_enter Tryz.func99,Tryz.ntmps99
  go_wp2_with(go_at_call 152;(with_reducible refine HC.out.mono ?_);rintro e w' ⟨rfl,rfl⟩)
  go_ret
  exact⟨rfl,(Below.refl w.heap.size w).alloc (yR _) _⟩
end Sg
namespace Ya
open Bytes8 Blk8 Own8 OwnE Hm Se Rows2
theorem ans_bd (t:Trio):0≤ans t∧ans t≤18446744073709551615:=b64 _ _ _
theorem lookS_bd (l:List Int):0≤lookS l∧lookS l≤18446744073709551615:=by
 unfold lookS
 split<;>exact ans_bd _
def lookN (l:List Int):Nat:=(lookS l).toNat
theorem lookN_is (l:List Int):lookS l=(lookN l:Int):=by unfold lookN;have:=lookS_bd l;omega
theorem lookN_lt (l:List Int):lookN l<2^64:=by unfold lookN;have:=lookS_bd l;omega
def xr (l:List (List Int)):Nat:=l.foldr (fun p v=>v^^^lookN p) 0
theorem xr_nil:xr []=0:=rfl
theorem xr_cons (p:List Int)(l:List (List Int)):xr (p::l)=xr l^^^lookN p:=rfl
theorem xr_lt (l:List (List Int)):xr l<2^64:=by
 induction l with
 |nil=>decide
 |cons p l ih=>rw[xr_cons];exact Nat.xor_lt_two_pow ih (lookN_lt p)
theorem xr_app (l m:List (List Int)):xr (l++m)=xr l^^^xr m:=by
 induction l with
 |nil=>simp[xr_nil]
 |cons p l ih=>rw[List.cons_append,xr_cons,xr_cons,ih,Nat.xor_assoc,Nat.xor_assoc,Nat.xor_comm (xr m)]
theorem xr_snoc (l:List (List Int))(p:List Int):xr (l++ [p])=xr l^^^lookN p:=by rw[xr_app,xr_cons,xr_nil,Nat.zero_xor]
def rowsL (P:Nat→List Int)(k:Nat):List (List Int):=(List.range k).map P
theorem rowsL_succ (P:Nat→List Int)(k:Nat):rowsL P (k+1)=rowsL P k++ [P k]:=by simp[rowsL,List.range_succ]
theorem xr_step (P:Nat→List Int)(k:Nat):xr (rowsL P (k+1))=xr (rowsL P k)^^^lookN (P k):=by rw[rowsL_succ,xr_snoc]
theorem xr_bits (P:Nat→List Int)(k:Nat):bits .xor .u64 ((xr (rowsL P k):Nat):Int) (lookS (P k))=((xr (rowsL P (k+1)):Nat):Int):=by
 rw[lookN_is,xr_step]
 exact u64_xor_nat _ _ (xr_lt _) (lookN_lt _)
theorem xor_any (a:Option Addr)(n cap:Nat)(A:Nat→Option Addr)(L C:Nat→Nat)(P:Nat→List Int)(w:World)(h:InRows w a n A L C P)(hn:n≤1000000)(hL: ∀r,r<n→L r≤800000):
 Calls Tryz.prog 225 #[.slice a n cap] w fun e w'=>e= .returned (.int .u64 ((xr (rowsL P n):Nat):Int))∧Below w.heap.size w w':=by
 have HR:=yH h
 clear h
 go_enter Tryz.func225,Tryz.ntmps225
 go_wp2
 go_loopw [3,8] (fun s i wr=> ∃k:Nat,k≤n∧i= .int .i64 (k:Int)∧s= .int .u64 ((xr (rowsL P k):Nat):Int)∧Hid (Below w.heap.size w wr)) (fun _ i _=>n-(intOf i).toNat)
 case atStart=>exact⟨0,Nat.zero_le _,rfl,rfl,Below.refl _ _⟩
 case round=>
  obtain⟨k,hk,rfl,rfl,hbel⟩:=hrel
  by_cases hlt:k<n
  ·obtain⟨b,off,rfl,hb,hc,hby,hl,hcap,hmax⟩:=(HR.out.below hbel.out) k hlt
   have HLk:=hL k hlt
   have HLook:=yH (look_all (A k) (P k) (L k) (C k) wr hby hl (by omega) hcap hmax)
   have HX:=yH (xr_bits P k)
   have hz:=hbel.out.size
   clear hby hl hcap hmax
   go_wp2_with(go_at_call 136;(with_reducible refine HLook.out.mono ?_);rintro e w2 ⟨rfl,hb2⟩;have HB2:=yH hb2;clear hb2)
   go_roundw
   case rel=>
    exact⟨k+1,by omega,by go_num,by rw[HX.out],yH (hbel.out.trans (HB2.out.mono hz))⟩
   case measure=>simp[intOf];omega
  ·obtain rfl:k=n:=by omega
   go_wp2
   go_ret
   exact⟨rfl,hbel.out⟩
end Ya
namespace Yb
open OwnE
theorem rowElt:Elt 24 194 1 24 (.slice none 0 0):=⟨Tryz.underlying194,by kernel_rfl,rfl,by decide⟩
end Yb
namespace Kf
open Bytes8 Blk8 Own8 OwnA
structure KeptF (F:Nat→Prop)(w w':World):Prop where
 os:w'.os=w.os
 tape:w'.tape=w.tape
 output:w'.output=w.output
 size:w.heap.size≤w'.heap.size
 block: ∀k,k<w.heap.size→ ¬F k→w'.heap[k]? =w.heap[k]?
def None' (k:Nat):Prop:=False
def One (g:Nat)(k:Nat):Prop:=k=g
theorem KeptF.refl (F:Nat→Prop)(w:World):KeptF F w w:=⟨rfl,rfl,rfl,yR _,fun _ _ _=>rfl⟩
theorem KeptF.trans {F G:Nat→Prop}{a b c:World}(h:KeptF F a b)(k:KeptF G b c)(hG: ∀i,i<a.heap.size→G i→F i):KeptF F a c:=
 ⟨k.os.trans h.os,k.tape.trans h.tape,k.output.trans h.output,Nat.le_trans h.size k.size,fun i hi hF=>(k.block i (yL hi h.size) (fun hg=>hF (hG i hi hg))).trans (h.block i hi hF)⟩
theorem KeptF.mono {F G:Nat→Prop}{w w':World}(h:KeptF F w w')(hG: ∀i,F i→G i):KeptF G w w':=
 ⟨h.os,h.tape,h.output,h.size,fun i hi hg=>h.block i hi (fun hf=>hg (hG i hf))⟩
theorem KeptF.of_below {F:Nat→Prop}{w w':World}(h:Below w.heap.size w w'):KeptF F w w':=⟨h.os,h.tape,h.output,h.size,fun k hk _=>h.block k hk⟩
theorem KeptF.below {F:Nat→Prop}{B:Nat}{w w':World}(h:KeptF F w w')(hB:B≤w.heap.size)(hF: ∀k,F k→B≤k):Below B w w':=
 ⟨h.os,h.tape,h.output,h.size,fun k hk=>h.block k (by omega) (fun hf=>by have:=hF k hf;omega)⟩
theorem KeptF.alloc {F:Nat→Prop}{a w:World}(h:KeptF F a w)(o:Obj):KeptF F a (w.alloc o):=
 h.trans (G:=None') (KeptF.of_below ((Below.refl _ _).alloc (yR _) o)) fun _ _ h=>h.elim
theorem KeptF.drew {F:Nat→Prop}{a w:World}(h:KeptF F a w):KeptF F a w.drew:=⟨h.os,h.tape,h.output,h.size,h.block⟩
theorem KeptF.setCell {F:Nat→Prop}{a w:World}(h:KeptF F a w){p:Addr}(hp:p.block<a.heap.size→F p.block)(u:Value):KeptF F a (w.setCell p u):=
 ⟨h.os,h.tape,h.output,Nat.le_trans h.size (by simp[World.setCell]),fun k hk hF=>(Below.heap_setCell _ _ _ _ (fun e=>hF (by rw[e];exact hp (by omega)))).trans (h.block k hk hF)⟩
theorem KeptF.set1 (w:World)(g i:Nat)(u:Value):KeptF (One g) w (w.setCell ⟨g,i,none⟩ u):=(KeptF.refl (One g) w).setCell (p:=⟨g,i,none⟩) (fun _=>(rfl:g=g)) u
theorem KeptF.grown {F:Nat→Prop}{a w w':World}{row:Option Nat}(h:KeptF F a w)(hg:w.grownBy w' row)(hr: ∀k,row=some k→k<a.heap.size→F k):KeptF F a w':=
 ⟨hg.os.trans h.os,hg.tape.trans h.tape,hg.output.trans h.output,Nat.le_trans h.size hg.size,fun k hk hF=>(hg.block k (yL hk h.size) (fun e=>hF (hr k e.symm hk))).trans (h.block k hk hF)⟩
theorem KeptF.grow {w w':World}(row:Option Nat)(hg:w.grownBy w' row):KeptF (fun k=>row=some k) w w':=(KeptF.refl _ w).grown hg fun _ h _=>h
theorem Blk.keptF {F:Nat→Prop}{w w':World}{g:Nat}{vs:List Value}{T:TypeId}(h:Blk w g vs T)(hk:KeptF F w w')(hF: ¬F g):Blk w' g vs T:=(hk.block g h.lt hF).trans h
theorem Own.keptF {F:Nat→Prop}{w w':World}{base n c:Nat}{A:Option Addr}{l:List Int}(h:Own w base A n c l)(hk:KeptF F w w')(hF: ∀g,ownB A=some g→ ¬F g):Own w' base A n c l:=by
 refine⟨h.1,h.2.1,Nat.le_trans h.2.2.1 hk.size,h.2.2.2.1,?_⟩
 rcases h.2.2.2.2 with h1|⟨k,cap,cur,h1,h2,h3,h4⟩
 ·exact .inl h1
 ·refine .inr ⟨k,cap,cur,h1,h2,?_,h4⟩
  have hk2:k<w.heap.size:=by
   rcases Nat.lt_or_ge k w.heap.size with h|h
   ·exact h
   ·rw[Array.getElem?_eq_none h]at h3;cases h3
  injection h1 with e1 e2 e3
  subst e1
  rw[hk.block k hk2 (hF k rfl)];exact h3
end Kf
namespace Yc
open Bytes8 Blk8 Own8 OwnE LeNum RefB Ob Od Rows2 Kf
def ints (f:Nat→Int)(k:Nat):List Int:=(List.range k).map f
theorem ints_succ (f:Nat→Int)(k:Nat):ints f (k+1)=ints f k++ [f k]:=by simp[ints,List.range_succ]
theorem ints_len (f:Nat→Int)(k:Nat):(ints f k).length=k:=by simp[ints]
theorem ints_nums (f:Nat→Int)(k:Nat):nums (ints f (k+1))=nums (ints f k)++lowB (f k) 8:=by rw[ints_succ,nums_snoc]
theorem nums_ints_len (f:Nat→Int)(k:Nat):(nums (ints f k)).length=8*k:=by rw[nums_len,ints_len]
theorem rnums_in (Ai:Option Addr)(n cap:Nat)(f:Nat→Int)(w:World)(hi:InInts .u64 w Ai n f)(hmax:n≤100000):
 Calls Tryz.prog 139 #[.slice Ai n cap] w fun e w'=> ∃A c,e= .returned (.slice A (8*n) c)∧Own w' w.heap.size A (8*n) c (nums (ints f n))∧Below w.heap.size w w':=by
 have HI:=yH hi
 clear hi
 go_enter Tryz.func139,Tryz.ntmps139
 go_wp2
 go_loopw [3,4] (fun s i wr=> ∃(k:Nat) (A:Option Addr) (c:Nat),k≤n∧i= .int .i64 (k:Int)∧s= .slice A (8*k) c∧Hid (Own wr w.heap.size A (8*k) c (nums (ints f k)))∧Hid (Below w.heap.size w wr)) (fun _ i _=>n-(intOf i).toNat)
 case atStart=>exact⟨0,none,0,Nat.zero_le _,rfl,rfl,Own.nil w _ (yR _),Below.refl _ _⟩
 case round=>
  obtain⟨k,A,c,hk,rfl,rfl,ho,hbel⟩:=hrel
  by_cases hlt2:k<n
  ·obtain⟨b,off,rfl,hb,hc,hw⟩:=(HI.out.below hbel.out) k hlt2
   obtain⟨x0,x1⟩:=bounds_u64 hw
   have HN:=yH (ints_nums f k)
   have hsz:=hbel.out.size
   generalize f k=x at*
   have HLo:=yH fun(W:World)=>rlow_at x 8 8 W x0 x1 (by decide) rfl
   go_wp2_with(first|(go_at_call 138;(with_reducible refine(HLo.out _).mono ?_);rintro e w2 ⟨A2,c2,rfl,ho2,hbel2⟩;have HO2:=yH ho2;have HB2:=yH hbel2;clear ho2 hbel2)|(at_builtin;refine wpList_append_bytes rfl (.tmp 11) (.tmp 16) rfl w.heap.size A (8*k) c (nums (ints f k)) rfl (ho.out.kept HB2.out (yR _)) A2 8 c2 _ rfl HO2.out.bytes (lowB_len _ _) (by omega) ?_;intro A3 c3 w3 ho3 hbel3;have HO3:=yH ho3;have HB3:=yH hbel3;clear ho3 hbel3))
   go_roundw
   case rel=>
    refine⟨k+1,A3,c3,by omega,by go_num,rfl,?_,yH ((hbel.out.trans (HB2.out.mono hsz)).trans HB3.out)⟩
    rw[HN.out]
    exact HO3
   case measure=>simp[intOf];omega
  ·obtain rfl:k=n:=by omega
   go_wp2
   go_ret
   exact⟨A,c,rfl,ho.out,hbel.out⟩
def In2 (w:World)(a:Option Addr)(n:Nat)(f g:Nat→Int):Prop:=
 ∀i,i<n→ ∃b off,a=some ⟨b,off,none⟩∧b<w.heap.size∧w.cell? ⟨b,off+i*2,none⟩=some (.int .u64 (f i))∧w.cell? ⟨b,off+i*2+1,none⟩=some (.int .u64 (g i))∧(0≤f i∧f i≤18446744073709551615)∧(0≤g i∧g i≤18446744073709551615)
theorem In2.keep {w w':World}{a:Option Addr}{n:Nat}{f g:Nat→Int}(h:In2 w a n f g)(hb:Below w.heap.size w w'):In2 w' a n f g:=fun i hi=>by
 obtain⟨b,off,e,h1,h2,h3,h4⟩:=h i hi
 exact⟨b,off,e,yL h1 hb.size,(hb.cell (p:=⟨b,off+i*2,none⟩) h1).trans h2,(hb.cell (p:=⟨b,off+i*2+1,none⟩) h1).trans h3,h4⟩
def prs (f g:Nat→Int)(k:Nat):List Int:=(List.range k).flatMap fun i=>[f i,g i]
theorem prs_zero (f g:Nat→Int):prs f g 0=[]:=rfl
theorem prs_succ (f g:Nat→Int)(k:Nat):prs f g (k+1)=prs f g k++ [f k,g k]:=by simp[prs,List.range_succ,List.flatMap_append]
theorem prs_len (f g:Nat→Int)(k:Nat):(prs f g k).length=2*k:=by
 induction k with
 |zero=>rfl
 |succ k ih=>rw[prs_succ,List.length_append,ih];simp;omega
theorem nums_prs (f g:Nat→Int)(k:Nat):nums (prs f g (k+1))=nums (prs f g k)++nums [f k,g k]:=by rw[prs_succ,nums_app]
theorem nums_prs_len (f g:Nat→Int)(k:Nat):(nums (prs f g k)).length=16*k:=by rw[nums_len,prs_len];omega
end Yc
end Go.Proofs.YtiddkgcafpaekaaGreat
