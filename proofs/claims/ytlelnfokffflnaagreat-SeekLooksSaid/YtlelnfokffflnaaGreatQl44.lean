/-
  Texts beneath the proof.
-/
import Derived.Test.YtlelnfokffflnaaGreatQl43
set_option linter.unusedVariables false
set_option linter.unusedSimpArgs false
set_option maxRecDepth 100000
set_option maxHeartbeats 4000000
open Go.ChangeShapes Go.WideShapes Go.ChangeAt Go.RowKit
namespace Go.Proofs.YtlelnfokffflnaaGreat
namespace Skf
open Bytes8 Blk8 Own8 OwnM OwnE Rows2 Ob Od Ga Gb Gf Gj Ma Kf Mh Na Np Nr Ns Nt Nu Rc Rn Rp Rr Va Wa Ls Pr8 Dc Zg Zj Zl Ja Jb Jd Je Jj Ska Skc Skd
open Go1 (hcode)
open Yg (NewIn)
def RowsN (xs:List Value)(k:Nat)(Q:Nat→RecP):Prop:=xs.length=20*k∧ ∀i,i<k→ ∃F cc,(xs.drop (20*i)).take 20=recL (Q i).s (Q i).r (Q i).m (Q i).K (.slice F (Q i).n cc)
theorem RowsN.nil (Q:Nat→RecP):RowsN [] 0 Q:=⟨rfl,fun i h=>absurd h (Nat.not_lt_zero i)⟩
theorem RowsN.snoc {xs:List Value}{k:Nat}{Q:Nat→RecP}(h:RowsN xs k Q){r:RecP}(g:Q k=r)(F:Option Addr)(b:Nat):RowsN (xs++recL r.s r.r r.m r.K (.slice F r.n b)) (k+1) Q:=by
 subst g
 obtain⟨d,f⟩:=h
 have c:(recL (Q k).s (Q k).r (Q k).m (Q k).K (.slice F (Q k).n b)).length=20:=rfl
 refine⟨by rw[List.length_append,c,d];omega,fun i hi=>?_⟩
 by_cases o:i<k
 ·obtain⟨j,l,e⟩:=f i o
  refine⟨j,l,?_⟩
  rw[List.drop_append_of_le_length (by omega),List.take_append_of_le_length (by rw[List.length_drop];omega)]
  exact e
 ·have e:i=k:=by omega
  subst e
  refine⟨F,b,?_⟩
  rw[List.drop_append,List.drop_of_length_le (by omega),List.nil_append,d,Nat.sub_self,List.drop_zero,List.take_of_length_le (by rw[c];exact yR _)]
def RecsTold (m:Nat)(Q:Nat→RecP)(w:World)(e:Ending)(w':World):Prop:= ∃A c xs B,e= .returned (.slice A m c)∧OwnE 70 20 w' B A m c xs∧RowsN xs m Q∧Below w.heap.size w w'
attribute [local irreducible] HD.cells wpList Code.wp
theorem aGR {w:World}{gf gv:Nat}{h:HD}{d:Int}{A:Option Addr}{E c:Nat}{l:List Int}{P:Option Addr}{n cp:Nat}{out:List Int}{cd:Int}(f:FileR w gf gv h d A E c l P n cp out cd):
 Calls Tryz.prog 68 #[.pointer (some ⟨gf,0,none⟩)] w (RecsTold (goodL h l E out n).length (g h l E out n) w):=by
 have ao:=f.nb
 have HG:=yH (aLK f)
 have HR:=yH fun(x:Nat) (hx:x<n) (W:World) (hW:Below w.heap.size w W)=>aLJ (f.below hW) x hx
 have q:=(aAR (jC h l E out) (fun x=>(jR h l E out x).s) n)
 have X: ∀x∈goodL h l E out n,x<n:=fun x hx=>(q.1 x hx).1
 have al:(goodL h l E out n).length≤n:=q.2.1
 have M: ∀x,jR h l E out x=recP h l E (out.getD x 0).toNat:=fun _=>rfl
 simp only[←M]at HR
 have z: ∀k,g h l E out n k=jR h l E out ((goodL h l E out n).getD k 0):=fun _=>rfl
 have HQ:=yH z
 clear f M q z
 have B:=yH X
 generalize g h l E out n=Q at*
 generalize goodL h l E out n=L at*
 generalize jR h l E out=R at*
 unfold TellR at HR
 unfold RecsTold
 clear X
 go_enter Tryz.func68,Tryz.ntmps68
 go_upto_region 2 with(first
  |(go_at_call 121;(refine HG.out.mono ?_);rintro e w1 ⟨A1,m,c1,rfl,aa,G,ab⟩;have O1:=yH aa;have L1:=yH G;have B1:=yH ab;clear aa G ab)
  |fail)
 clear HG
 have ap:m≤800000:=by have:=L1.out;omega
 have S1:=yH (Below.refl w1.heap.size w1)
 have N1:=yH (OwnE.nil (E:=70) (size:=20) w1 w1.heap.size (yR _))
 have Q1:=yH (RowsN.nil Q)
 go_wp2_with fail
 go_loopw [4,5] (fun s i wr=> ∃(k:Nat) (V:Option Addr) (N:Nat) (xs:List Value),k≤m∧s= .slice V k N∧i= .int .i64 (k:Int)∧Hid (OwnE 70 20 wr w1.heap.size V k N xs)∧Hid (RowsN xs k Q)∧Hid (Below w1.heap.size w1 wr)) (fun _ i _=>m-Rn.natOf i)
 case atStart=>exact⟨0,none,0,[],Nat.zero_le _,rfl,rfl,N1,Q1,S1⟩
 case round=>
  obtain⟨k,V,N,xs,hk,rfl,rfl,hO,z,hB⟩:=hrel
  by_cases u:k<m
  ·have ae:decide ((k:Int)<(m:Int))=true:=by simp;omega
   have aj:(k:Int)<(m:Int):=by omega
   have aq:IntKind.i64.wrap ((k:Int)+1)=((k+1:Nat):Int):=by rw[IntKind.wrap_i64];omega
   have C:k<L.length:=by rw[L1.out];exact u
   have I:L.getD k 0=L[k]:=by simp[List.getElem?_eq_getElem C]
   obtain⟨gL,rfl,am⟩:=aPf (O1.out.kept hB.out (yR _)) L1.out (fun x hx=>by have:=B.out x hx;omega) k u
   have D:=B.out (L.getD k 0) (by rw[I];exact List.getElem_mem C)
   have t:=yH (HR.out (L.getD k 0) D wr (B1.out.trans (hB.out.mono B1.out.size)))
   have ah:=yH (HQ.out k)
   clear HR I D
   generalize R (L.getD k 0)=r at*
   generalize L.getD k 0=x at*
   obtain⟨rs,o,p,g,j,ak⟩:=r
   dsimp only at t
   generalize rcode h l E (out.getD x 0).toNat=an at*
   go_upto_region 7 with(first
    |(go_at_call 122;(refine t.out.mono ?_);rintro e w2 ⟨F,cf,rfl,_,Z⟩;have b2:=yH Z;clear Z)
    |((with_reducible apply aAa (.tmp 6) (.tmp 23));refine wpList_store_row rfl 70 (.tmp 6) (.tmp 23) rfl w2.heap.size (recL rs o p g (.slice F j cf)).toArray rfl rfl 70 zR (heap_alloc_new w2 _) (aAm _ _ _ _ _) rfl (by simp[Value.oneCell']) ?_)
    |fail)
   have R3:=yH (show Blk ((w2.alloc (.cells zR 70)).setRow w2.heap.size (recL rs o p g (.slice F j cf)).toArray) w2.heap.size (recL rs o p g (.slice F j cf)) 70 from setRow_heap _ _ _ _ _ (0,0) (heap_alloc_new w2 _))
   have b3:=yH (show Below w2.heap.size w2 ((w2.alloc (.cells zR 70)).setRow w2.heap.size (recL rs o p g (.slice F j cf)).toArray)from below_setRow ((Below.refl _ _).alloc (yR _) _) (yR _) _)
   generalize (w2.alloc (.cells zR 70)).setRow w2.heap.size (recL rs o p g (.slice F j cf)).toArray=w3 at*
   have ac:=yH (b2.out.trans (b3.out.mono b2.out.size))
   have B3:=yH (hB.out.trans (ac.out.mono hB.out.size))
   have O3:=yH (hO.out.kept ac.out (yR _))
   have Q3:=yH (z.out.snoc ah.out F cf)
   dsimp only at Q3
   have y:=yH (OwnE.alloc O3.out (.cells (recL rs o p g (.slice F j cf)).toArray 70))
   have af:=yH (Nu.aIF rs o p g F j cf)
   have ag:=yH ((Below.refl w3.heap.size w3).alloc (yR _) (.cells (recL rs o p g (.slice F j cf)).toArray 70))
   clear t b2 b3 hO z
   generalize w2.heap.size=g2 at*
   go_wp2_with(first
    |((with_reducible apply aAb 26);refine wpList_load_row rfl 70 (.tmp 6) rfl g2 rfl 70 (recL rs o p g (.slice F j cf)).toArray (0,0) _ R3.out Tryz.underlying70 rfl (aAm _ _ _ _ _) ?_)
    |(at_builtin;refine wpList_append_new aOf rfl (.tmp 25) (.tmp 27) rfl w1.heap.size V k N xs rfl y.out ⟨w3.heap.size,0,none⟩ 1 1 (recL rs o p g (.slice F j cf)) rfl rfl (Blk.news (Blk.new w3 _ _)) af.out (by omega) (by omega) (by unfold maxLen;omega) ?_;intro A6 c6 w6 J H Y;have O6:=yH J;have G6:=yH H;clear J H Y)
    |fail)
   have B6:=yH ((B3.out.trans (ag.out.mono B3.out.size)).trans (Own8.below_grown G6.out (by have:=y.out.1;omega) (fun b hb=>(Dc.OwnE.ltB y.out b hb).1)))
   go_roundw
   case rel=>exact⟨k+1,A6,c6,_,u,rfl,rfl,O6,Q3,B6⟩
   case measure=>simp[Rn.natOf];omega
  ·have ae:decide ((k:Int)<(m:Int))=false:=by simp;omega
   have ai:k=m:=by omega
   subst ai
   have ad:=L1.out
   go_wp2_with fail
   go_ret
   rw[ad]
   exact⟨V,N,xs,w1.heap.size,rfl,hO.out,z.out,B1.out.trans (hB.out.mono B1.out.size)⟩
def Op16 (h:HD)(l:List Int)(E:Nat)(out:List Int)(w:World)(e:Ending)(w':World):Prop:= ∃gx A c xs B,e= .returned (.tuple #[.pointer (some ⟨gx,0,none⟩),.slice A (goodL h l E out out.length).length c])∧Idx w' gx (goodL h l E out out.length).length (rK h l E out out.length)∧OwnE 70 20 w' B A (goodL h l E out out.length).length c xs∧RowsN xs (goodL h l E out out.length).length (rK h l E out out.length)∧Below w.heap.size w w'
theorem open_fine (l:List Int)(A:Option Addr)(n c:Nat)(w:World)(hb:Bytes w A l)(hL:l.length=n)(hn:n≤800000)(hc:n≤c)(M:hcode l n=0)(E:Nat)(L:endV (hdOf l)=(E:Int))(g:endB (hdOf l)=true)(y:E≤n)(k:(hdOf l).Ok 21):
 Calls Tryz.prog 26 #[.slice A n c] w (Op16 (hdOf l) (l.take E) E (chase (hdOf l) (l.take E) E ((hdOf l).N 8) 14 2 (E+1) [] ((hdOf l).N 11).toNat 0).1 w):=by
 have i:=yH fun(W:World) (hW:Bytes W A l)=>aE6 l A n c W hW hL hn hc M E L g y k
 have X:=yH fun(W:World) (hW:Bytes W A l)=>aGO l A n c W hW hL hn hc M E L g y k
 unfold JOpened at i
 unfold ROpened at X
 have Y:=yH hb
 clear hb M L g k
 unfold Op16
 generalize hdOf l=H at*
 generalize Ob.u8 l 248=dp at*
 generalize chase H (l.take E) E (H.N 8) 14 2 (E+1) [] (H.N 11).toNat 0=R at*
 obtain⟨out,cd⟩:=R
 dsimp only at*
 generalize l.take E=b at*
 have r:=yH fun(W:World) (gf B:Nat) (G:Option Addr) (C:Nat) (D:Option Addr) (q cp:Nat) (f:FileAt W gf B H G E C b D q cp out cd)=>show Calls Tryz.prog 61 #[.pointer (some ⟨gf,0,none⟩)] W fun e w'=> ∃F,e= .returned (.pointer (some ⟨F,0,none⟩))∧Idx w' F (goodL H b E out out.length).length (rK H b E out out.length)∧Below W.heap.size W w' from by
  have e:q=out.length:=f.len.symm
  subst e
  exact new_any f
 have j:=yH fun(W:World) (gf B:Nat) (G:Option Addr) (C:Nat) (D:Option Addr) (q cp:Nat) (f:FileR W gf B H dp G E C b D q cp out cd)=>show Calls Tryz.prog 68 #[.pointer (some ⟨gf,0,none⟩)] W (RecsTold (goodL H b E out out.length).length (rK H b E out out.length) W)from by
  have e:q=out.length:=f.len.symm
  subst e
  exact aGR f
 generalize rK H b E out out.length=Rr at*
 generalize (goodL H b E out out.length).length=m at*
 unfold RecsTold at j
 go_enter Tryz.func26,Tryz.ntmps26
 go_upto_region 2 with(first
  |(go_at_call 60;((refine(i.out _ Y.out).mono ?_);rintro e w4 ⟨gf,B,G,C,D,q,cp,rfl,hf,o⟩;have u:=yH hf;have V:=yH o;have z:=yH (Y.out.below o (yR _));clear hf o))
  |fail)
 go_upto_region 5 with(first
  |(go_at_call 67;((refine(X.out _ z.out).mono ?_);rintro e w5 ⟨gr,gw,Aw,cw,Pq,aa,ab,rfl,hr,p⟩;have HR:=yH hr;have HF:=yH (u.out.below p);have B5:=yH (V.out.trans (p.mono V.out.size));clear hr p))
  |fail)
 have HN:=yH (r.out _ _ _ _ _ _ _ _ HF.out)
 have I:=yH fun(W:World) (hW:Below w5.heap.size w5 W)=>j.out _ _ _ _ _ _ _ _ (HR.out.below hW)
 clear i X Y z V u HF HR r j
 go_wp2_with(first
  |(go_at_call 61;((refine HN.out.mono ?_);rintro e w6 ⟨F,rfl,hx,x⟩;have HX:=yH hx;have Z:=yH x;clear hx x))
  |(go_at_call 68;((refine(I.out _ Z.out).mono ?_);rintro e w7 ⟨A7,c7,xs,B0,rfl,s,t,d⟩;have J:=yH (HX.out.below d);have O7:=yH s;have R7:=yH t;have B7:=yH (B5.out.trans ((Z.out.trans (d.mono Z.out.size)).mono B5.out.size));clear s t d))
  |fail)
 go_ret2
 exact⟨F,A7,c7,xs,B0,rfl,J.out,O7.out,R7.out,B7.out⟩
theorem aDg (w:World):Calls Tryz.prog 24 #[] w fun e w'=>e= .returned (.bool true)∧Below w.heap.size w w':=by
 have Y:=yH (aOY none 0 0 (fun _=>0) 0 w (fun i hi=>absurd hi (Nat.not_lt_zero i)) (by decide) (by decide))
 unfold ImagedN at Y
 go_enter Tryz.func24,Tryz.ntmps24
 have H:=yH fun(m:Mk) (n:Nat) (hg:GoodN m n 0) (A:Option Addr) (c:Nat) (W:World) (B:Nat) (ho:Own8.Own W B A m.b.length c (imgB m))=>show Calls Tryz.prog 60 #[.slice A m.b.length c] W fun e w'=> ∃(gf j:Nat) (h:HD) (g:Option Addr) (E o:Nat) (l:List Int) (P:Option Addr) (cp:Nat),e= .returned (.tuple #[.pointer (some ⟨gf,0,none⟩),.int .i64 0])∧FileAt w' gf j h g E o l P 0 cp [] 0∧Below W.heap.size W w' from by
  have z:=hg.img
  have L:=z.lens
  have hL:=st_len z 1
  obtain⟨V,J⟩:=aOm z (st:=1) (by decide)
  have e8:=((aEu z (st:=1) (by decide)).N 8 (by decide)).trans (aHV m 1 8 (by decide))
  rw[if_neg (by decide),hg.cnt,show(n:Int)=0 by have:=hg.le;omega]at e8
  refine(aE6 (stL m 1) A m.b.length c W ho.bytes hL (by omega) (aBs ho).1 (aIU z (by decide)) m.b.length V J (yR _) (aDk ho.bytes.1 21)).mono ?_
  rintro e w' ⟨gf,j,g,o,P,q,cp,rfl,k,hb⟩
  have M:=aAN (hdOf (stL m 1)) ((stL m 1).take m.b.length) m.b.length 0 14 2 (m.b.length+1) [] ((hdOf (stL m 1)).N 11).toNat 0 rfl
  rw[e8,M]at k
  dsimp only at k
  have hq:q=0:=k.len.symm
  subst hq
  exact⟨gf,j,_,g,_,o,_,P,cp,rfl,k,hb⟩
 have G:=yH fun(W:World) (gf j:Nat) (h:HD) (g:Option Addr) (E o:Nat) (l:List Int) (P:Option Addr) (cp:Nat) (f:FileAt W gf j h g E o l P 0 cp [] 0)=>show Calls Tryz.prog 61 #[.pointer (some ⟨gf,0,none⟩)] W fun e w'=> ∃d R,e= .returned (.pointer (some ⟨d,0,none⟩))∧Idx w' d 0 R∧Below W.heap.size W w' from(new_any f).mono fun e w' ⟨d,h1,h2,h3⟩=>⟨d,_,h1,h2,h3⟩
 have F:=yH fun(W:World) (d:Nat) (R:Nat→RecP) (x:Idx W d 0 R)=>show Calls Tryz.prog 30 #[.pointer (some ⟨d,0,none⟩),.int .u64 3] W fun e w'=>e= .returned (.tuple #[.int .i64 0,.int .i64 0])∧Idx w' d 0 R∧Below W.heap.size W w' from(aHW x 3).mono fun e w' ⟨r,c,h1,h2,h3,h4⟩=>by
  have V:r=0:=Nat.le_zero.1 h2.1
  have J:c=0:=Nat.le_zero.1 (h3 0 (by decide))
  subst V J
  exact⟨h1,x.below h4,h4⟩
 go_wp2_with(first
  |(go_at_call 11;((refine Y.out.mono ?_);rintro e w2 ⟨A,c,m,n,rfl,t,s,u⟩;have HG:=yH (H.out m n t A c w2 _ s);have Z:=yH u;clear t s u))
  |(go_at_call 60;((refine HG.out.mono ?_);rintro e w3 ⟨gf,j,h,g,E,o,l,P,cp,rfl,k,C⟩;have B3:=yH (Z.out.trans (C.mono Z.out.size));have I:=yH (G.out w3 gf j h g E o l P cp k);clear k C))
  |(go_at_call 61;((refine I.out.mono ?_);rintro e w4 ⟨d,R,rfl,y,D⟩;have B4:=yH (B3.out.trans (D.mono B3.out.size));have X:=yH (F.out w4 d R y);clear y D))
  |(go_at_call 30;((refine X.out.mono ?_);rintro e w5 ⟨rfl,y,p⟩;have B5:=yH (B4.out.trans (p.mono B4.out.size));have HL:=yH (aFN y);clear y p))
  |(go_at_call 28;((refine HL.out.mono ?_);rintro e w6 ⟨rfl,rfl⟩))
  |fail)
 go_ret
 exact⟨rfl,B5.out⟩
end Skf
namespace SeekRecordsW
open Bytes8 OwnE Ga Gb Gj Ma Mh Na Np Ns Nt Nu Rn Rp Rr Va Zg Zh Zl Seq8 Kf Jd Je Jf Ji Skc Skf
open Go1 (hcode)
attribute [local irreducible] HD.cells wpList Code.wp
theorem aLS {m:Mk}{n0:Nat}{r:List Za.O}{hs:Nat→List Nat}{j:List Nat}{p:List (Nat×List Int)}(k:Kept m n0 r hs j p){st:Int}(g:0≤st∧st≤2)(A:Option Addr)(c:Nat)(w:World)(l:Bytes w A (stL m st))(n:m.b.length≤c):
 Calls Tryz.prog 26 #[.slice A m.b.length c] w (Op16 (hdOf (stL m st)) (stL m st) m.b.length (toI j) w):=by
 have d:=k.good.img
 have f:=d.lens
 have o:=st_len d st
 obtain⟨q,s⟩:=aOm d g
 have i:=(aNL k g).1
 have h:=Skf.open_fine (stL m st) A m.b.length c w l o (by omega) n (aIU d g) m.b.length q s (yR _) (aDk l.1 21)
 rw[List.take_of_length_le (by omega),i]at h
 exact h
theorem aLT (h:HD)(l:List Int)(E:Nat)(out:List Int)(n:Nat)(k:Nat)(b:k<(goodL h l E out n).length):(goodRecs h l E out n).getD k dP=rK h l E out n k:=by
 unfold goodRecs rK
 rw[List.getD_eq_getElem?_getD,List.getElem?_map,List.getD_eq_getElem?_getD,List.getElem?_eq_getElem b]
 rfl
theorem aDu (h:HD)(l:List Int)(E:Nat)(out:List Int)(n:Nat):(goodRecs h l E out n).length=(goodL h l E out n).length:=List.length_map _
end SeekRecordsW
end Go.Proofs.YtlelnfokffflnaaGreat
