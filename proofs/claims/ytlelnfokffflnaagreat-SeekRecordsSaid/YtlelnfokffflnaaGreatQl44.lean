/-
  Texts beneath the proof.
-/
import Derived.Test.YtlelnfokffflnaaGreatQl43
set_option linter.unusedVariables false
set_option linter.unusedSimpArgs false
set_option maxRecDepth 100000
set_option maxHeartbeats 4000000
open Go.ChangeShapes Go.WideShapes Go.ChangeAt Go.RowKit
namespace Go.Proofs.YtlelnfokffflnaaGreat
namespace Skf
open Bytes8 Blk8 Own8 OwnM OwnE Rows2 Ob Od Ga Gb Gf Gj Ma Kf Mh Na Np Nr Ns Nt Nu Rc Rn Rp Rr Va Wa Ls Pr8 Dc Zg Zj Zl Ja Jb Jd Je Jj Ska Skc Skd
open Go1 (hcode)
open Yg (NewIn)
def RowsN (xs:List Value)(k:Nat)(Q:Nat→RecP):Prop:=xs.length=20*k∧ ∀i,i<k→ ∃F cc,(xs.drop (20*i)).take 20=recL (Q i).s (Q i).r (Q i).m (Q i).K (.slice F (Q i).n cc)
theorem RowsN.nil (Q:Nat→RecP):RowsN [] 0 Q:=⟨rfl,fun i h=>absurd h (Nat.not_lt_zero i)⟩
theorem RowsN.snoc {xs:List Value}{k:Nat}{Q:Nat→RecP}(h:RowsN xs k Q){r:RecP}(f:Q k=r)(F:Option Addr)(a:Nat):RowsN (xs++recL r.s r.r r.m r.K (.slice F r.n a)) (k+1) Q:=by
 subst f
 obtain⟨c,d⟩:=h
 have b:(recL (Q k).s (Q k).r (Q k).m (Q k).K (.slice F (Q k).n a)).length=20:=rfl
 refine⟨by rw[List.length_append,b,c];omega,fun i hi=>?_⟩
 by_cases l:i<k
 ·obtain⟨g,j,e⟩:=d i l
  refine⟨g,j,?_⟩
  rw[List.drop_append_of_le_length (by omega),List.take_append_of_le_length (by rw[List.length_drop];omega)]
  exact e
 ·have e:i=k:=by omega
  subst e
  refine⟨F,a,?_⟩
  rw[List.drop_append,List.drop_of_length_le (by omega),List.nil_append,c,Nat.sub_self,List.drop_zero,List.take_of_length_le (by rw[b];exact yR _)]
def RecsTold (m:Nat)(Q:Nat→RecP)(w:World)(e:Ending)(w':World):Prop:= ∃A c xs B,e= .returned (.slice A m c)∧OwnE 70 20 w' B A m c xs∧RowsN xs m Q∧Below w.heap.size w w'
attribute [local irreducible] HD.cells wpList Code.wp
theorem aGR {w:World}{gf gv:Nat}{h:HD}{d:Int}{A:Option Addr}{E c:Nat}{l:List Int}{P:Option Addr}{n cp:Nat}{out:List Int}{cd:Int}(f:FileR w gf gv h d A E c l P n cp out cd):
 Calls Tryz.prog 68 #[.pointer (some ⟨gf,0,none⟩)] w (RecsTold (goodL h l E out n).length (a h l E out n) w):=by
 have ai:=f.nb
 have HG:=yH (aLK f)
 have HR:=yH fun(x:Nat) (hx:x<n) (W:World) (hW:Below w.heap.size w W)=>aLJ (f.below hW) x hx
 have u:=(aAR (jC h l E out) (fun x=>(jR h l E out x).s) n)
 have Z: ∀x∈goodL h l E out n,x<n:=fun x hx=>(u.1 x hx).1
 have al:(goodL h l E out n).length≤n:=u.2.1
 have X: ∀x,jR h l E out x=recP h l E (out.getD x 0).toNat:=fun _=>rfl
 simp only[←X]at HR
 have v: ∀k,a h l E out n k=jR h l E out ((goodL h l E out n).getD k 0):=fun _=>rfl
 have HQ:=yH v
 clear f X u v
 have V:=yH Z
 generalize a h l E out n=Q at*
 generalize goodL h l E out n=L at*
 generalize jR h l E out=R at*
 unfold TellR at HR
 unfold RecsTold
 clear Z
 go_enter Tryz.func68,Tryz.ntmps68
 go_upto_region 2 with(first
  |(go_at_call 121;(refine HG.out.mono ?_);rintro e w1 ⟨A1,m,c1,rfl,C,aa,Y⟩;have O1:=yH C;have L1:=yH aa;have B1:=yH Y;clear C aa Y)
  |fail)
 clear HG
 have an:m≤800000:=by have:=L1.out;omega
 have S1:=yH (Below.refl w1.heap.size w1)
 have N1:=yH (OwnE.nil (E:=70) (size:=20) w1 w1.heap.size (yR _))
 have Q1:=yH (RowsN.nil Q)
 go_wp2_with fail
 go_loopw [4,5] (fun s i wr=> ∃(k:Nat) (A2:Option Addr) (H:Nat) (xs:List Value),k≤m∧s= .slice A2 k H∧i= .int .i64 (k:Int)∧Hid (OwnE 70 20 wr w1.heap.size A2 k H xs)∧Hid (RowsN xs k Q)∧Hid (Below w1.heap.size w1 wr)) (fun _ i _=>m-Rn.natOf i)
 case atStart=>exact⟨0,none,0,[],Nat.zero_le _,rfl,rfl,N1,Q1,S1⟩
 case round=>
  obtain⟨k,A2,H,xs,hk,rfl,rfl,hO,v,y⟩:=hrel
  by_cases q:k<m
  ·have ag:decide ((k:Int)<(m:Int))=true:=by simp;omega
   have ah:(k:Int)<(m:Int):=by omega
   have ak:IntKind.i64.wrap ((k:Int)+1)=((k+1:Nat):Int):=by rw[IntKind.wrap_i64];omega
   have z:k<L.length:=by rw[L1.out];exact q
   have J:L.getD k 0=L[k]:=by simp[List.getElem?_eq_getElem z]
   obtain⟨gL,rfl,am⟩:=aPf (O1.out.kept y.out (yR _)) L1.out (fun x hx=>by have:=V.out x hx;omega) k q
   have I:=V.out (L.getD k 0) (by rw[J];exact List.getElem_mem z)
   have t:=yH (HR.out (L.getD k 0) I wr (B1.out.trans (y.out.mono B1.out.size)))
   have ab:=yH (HQ.out k)
   clear HR J I
   generalize R (L.getD k 0)=r at*
   generalize L.getD k 0=x at*
   obtain⟨rs,g,j,a,o,ao⟩:=r
   dsimp only at t
   generalize rcode h l E (out.getD x 0).toNat=aj at*
   go_upto_region 7 with(first
    |(go_at_call 122;(refine t.out.mono ?_);rintro e w2 ⟨F,cf,rfl,_,D⟩;have b2:=yH D;clear D)
    |((with_reducible apply aAa (.tmp 6) (.tmp 23));refine wpList_store_row rfl 70 (.tmp 6) (.tmp 23) rfl w2.heap.size (recL rs g j a (.slice F o cf)).toArray rfl rfl 70 zR (heap_alloc_new w2 _) (aAm _ _ _ _ _) rfl (by simp[Value.oneCell']) ?_)
    |fail)
   have R3:=yH (show Blk ((w2.alloc (.cells zR 70)).setRow w2.heap.size (recL rs g j a (.slice F o cf)).toArray) w2.heap.size (recL rs g j a (.slice F o cf)) 70 from setRow_heap _ _ _ _ _ (0,0) (heap_alloc_new w2 _))
   have b3:=yH (show Below w2.heap.size w2 ((w2.alloc (.cells zR 70)).setRow w2.heap.size (recL rs g j a (.slice F o cf)).toArray)from below_setRow ((Below.refl _ _).alloc (yR _) _) (yR _) _)
   generalize (w2.alloc (.cells zR 70)).setRow w2.heap.size (recL rs g j a (.slice F o cf)).toArray=w3 at*
   have B:=yH (b2.out.trans (b3.out.mono b2.out.size))
   have B3:=yH (y.out.trans (B.out.mono y.out.size))
   have O3:=yH (hO.out.kept B.out (yR _))
   have Q3:=yH (v.out.snoc ab.out F cf)
   dsimp only at Q3
   have p:=yH (OwnE.alloc O3.out (.cells (recL rs g j a (.slice F o cf)).toArray 70))
   have ad:=yH (Nu.aIF rs g j a F o cf)
   have ae:=yH ((Below.refl w3.heap.size w3).alloc (yR _) (.cells (recL rs g j a (.slice F o cf)).toArray 70))
   clear t b2 b3 hO v
   generalize w2.heap.size=g2 at*
   go_wp2_with(first
    |((with_reducible apply aAb 26);refine wpList_load_row rfl 70 (.tmp 6) rfl g2 rfl 70 (recL rs g j a (.slice F o cf)).toArray (0,0) _ R3.out Tryz.underlying70 rfl (aAm _ _ _ _ _) ?_)
    |(at_builtin;refine wpList_append_new aOf rfl (.tmp 25) (.tmp 27) rfl w1.heap.size A2 k H xs rfl p.out ⟨w3.heap.size,0,none⟩ 1 1 (recL rs g j a (.slice F o cf)) rfl rfl (Blk.news (Blk.new w3 _ _)) ad.out (by omega) (by omega) (by unfold maxLen;omega) ?_;intro A6 c6 w6 G N M;have O6:=yH G;have G6:=yH N;clear G N M)
    |fail)
   have B6:=yH ((B3.out.trans (ae.out.mono B3.out.size)).trans (Own8.below_grown G6.out (by have:=p.out.1;omega) (fun b hb=>(Dc.OwnE.ltB p.out b hb).1)))
   go_roundw
   case rel=>exact⟨k+1,A6,c6,_,q,rfl,rfl,O6,Q3,B6⟩
   case measure=>simp[Rn.natOf];omega
  ·have ag:decide ((k:Int)<(m:Int))=false:=by simp;omega
   have ac:k=m:=by omega
   subst ac
   have af:=L1.out
   go_wp2_with fail
   go_ret
   rw[af]
   exact⟨A2,H,xs,w1.heap.size,rfl,hO.out,v.out,B1.out.trans (y.out.mono B1.out.size)⟩
def Op16 (h:HD)(l:List Int)(E:Nat)(out:List Int)(w:World)(e:Ending)(w':World):Prop:= ∃gx A c xs B,e= .returned (.tuple #[.pointer (some ⟨gx,0,none⟩),.slice A (goodL h l E out out.length).length c])∧Idx w' gx (goodL h l E out out.length).length (rK h l E out out.length)∧OwnE 70 20 w' B A (goodL h l E out out.length).length c xs∧RowsN xs (goodL h l E out out.length).length (rK h l E out out.length)∧Below w.heap.size w w'
theorem open_fine (l:List Int)(A:Option Addr)(n c:Nat)(w:World)(Y:Bytes w A l)(Z:l.length=n)(hn:n≤800000)(hc:n≤c)(M:hcode l n=0)(E:Nat)(L:endV (hdOf l)=(E:Int))(d:endB (hdOf l)=true)(r:E≤n)(k:(hdOf l).Ok 21):
 Calls Tryz.prog 26 #[.slice A n c] w (Op16 (hdOf l) (l.take E) E (chase (hdOf l) (l.take E) E ((hdOf l).N 8) 14 2 (E+1) [] ((hdOf l).N 11).toNat 0).1 w):=by
 have b:=yH fun(W:World) (hW:Bytes W A l)=>aE6 l A n c W hW Z hn hc M E L d r k
 have G:=yH fun(W:World) (hW:Bytes W A l)=>aGO l A n c W hW Z hn hc M E L d r k
 unfold JOpened at b
 unfold ROpened at G
 have J:=yH Y
 clear Y M L d k
 unfold Op16
 generalize hdOf l=H at*
 generalize Ob.u8 l 248=dp at*
 generalize chase H (l.take E) E (H.N 8) 14 2 (E+1) [] (H.N 11).toNat 0=R at*
 obtain⟨out,cd⟩:=R
 dsimp only at*
 generalize l.take E=a at*
 have t:=yH fun(W:World) (gf z:Nat) (C:Option Addr) (B:Nat) (y:Option Addr) (o cp:Nat) (f:FileAt W gf z H C E B a y o cp out cd)=>show Calls Tryz.prog 61 #[.pointer (some ⟨gf,0,none⟩)] W fun e w'=> ∃x,e= .returned (.pointer (some ⟨x,0,none⟩))∧Idx w' x (goodL H a E out out.length).length (rK H a E out out.length)∧Below W.heap.size W w' from by
  have e:o=out.length:=f.len.symm
  subst e
  exact new_any f
 have g:=yH fun(W:World) (gf z:Nat) (C:Option Addr) (B:Nat) (y:Option Addr) (o cp:Nat) (f:FileR W gf z H dp C E B a y o cp out cd)=>show Calls Tryz.prog 68 #[.pointer (some ⟨gf,0,none⟩)] W (RecsTold (goodL H a E out out.length).length (rK H a E out out.length) W)from by
  have e:o=out.length:=f.len.symm
  subst e
  exact aGR f
 generalize rK H a E out out.length=Rr at*
 generalize (goodL H a E out out.length).length=m at*
 unfold RecsTold at g
 go_enter Tryz.func26,Tryz.ntmps26
 go_upto_region 2 with(first
  |(go_at_call 60;((refine(b.out _ J.out).mono ?_);rintro e w4 ⟨gf,z,C,B,y,o,cp,rfl,hf,h⟩;have u:=yH hf;have F:=yH h;have q:=yH (J.out.below h (yR _));clear hf h))
  |fail)
 go_upto_region 5 with(first
  |(go_at_call 67;((refine(G.out _ q.out).mono ?_);rintro e w5 ⟨gr,gw,Aw,cw,Pq,ab,aa,rfl,hr,i⟩;have X:=yH hr;have HF:=yH (u.out.below i);have B5:=yH (F.out.trans (i.mono F.out.size));clear hr i))
  |fail)
 have HN:=yH (t.out _ _ _ _ _ _ _ _ HF.out)
 have V:=yH fun(W:World) (hW:Below w5.heap.size w5 W)=>g.out _ _ _ _ _ _ _ _ (X.out.below hW)
 clear b G J q F u HF X t g
 go_wp2_with(first
  |(go_at_call 61;((refine HN.out.mono ?_);rintro e w6 ⟨x,rfl,hx,s⟩;have HX:=yH hx;have D:=yH s;clear hx s))
  |(go_at_call 68;((refine(V.out _ D.out).mono ?_);rintro e w7 ⟨A7,c7,xs,B0,rfl,p,v,j⟩;have I:=yH (HX.out.below j);have O7:=yH p;have R7:=yH v;have B7:=yH (B5.out.trans ((D.out.trans (j.mono D.out.size)).mono B5.out.size));clear p v j))
  |fail)
 go_ret2
 exact⟨x,A7,c7,xs,B0,rfl,I.out,O7.out,R7.out,B7.out⟩
theorem aDg (w:World):Calls Tryz.prog 24 #[] w fun e w'=>e= .returned (.bool true)∧Below w.heap.size w w':=by
 have HI:=yH (aOY none 0 0 (fun _=>0) 0 w (fun i hi=>absurd hi (Nat.not_lt_zero i)) (by decide) (by decide))
 unfold ImagedN at HI
 go_enter Tryz.func24,Tryz.ntmps24
 have D:=yH fun(m:Mk) (n:Nat) (hg:GoodN m n 0) (A:Option Addr) (c:Nat) (W:World) (B:Nat) (ho:Own8.Own W B A m.b.length c (imgB m))=>show Calls Tryz.prog 60 #[.slice A m.b.length c] W fun e w'=> ∃(gf g:Nat) (h:HD) (j:Option Addr) (E k:Nat) (l:List Int) (P:Option Addr) (cp:Nat),e= .returned (.tuple #[.pointer (some ⟨gf,0,none⟩),.int .i64 0])∧FileAt w' gf g h j E k l P 0 cp [] 0∧Below W.heap.size W w' from by
  have p:=hg.img
  have C:=p.lens
  have hL:=st_len p 1
  obtain⟨H,J⟩:=aOm p (st:=1) (by decide)
  have X:=((aEu p (st:=1) (by decide)).N 8 (by decide)).trans (aHV m 1 8 (by decide))
  rw[if_neg (by decide),hg.cnt,show(n:Int)=0 by have:=hg.le;omega]at X
  refine(aE6 (stL m 1) A m.b.length c W ho.bytes hL (by omega) (aBs ho).1 (aIU p (by decide)) m.b.length H J (yR _) (aDk ho.bytes.1 21)).mono ?_
  rintro e w' ⟨gf,g,j,k,P,q,cp,rfl,d,hb⟩
  have F:=aAN (hdOf (stL m 1)) ((stL m 1).take m.b.length) m.b.length 0 14 2 (m.b.length+1) [] ((hdOf (stL m 1)).N 11).toNat 0 rfl
  rw[X,F]at d
  dsimp only at d
  have hq:q=0:=d.len.symm
  subst hq
  exact⟨gf,g,_,j,_,k,_,P,cp,rfl,d,hb⟩
 have G:=yH fun(W:World) (gf g:Nat) (h:HD) (j:Option Addr) (E k:Nat) (l:List Int) (P:Option Addr) (cp:Nat) (f:FileAt W gf g h j E k l P 0 cp [] 0)=>show Calls Tryz.prog 61 #[.pointer (some ⟨gf,0,none⟩)] W fun e w'=> ∃a R,e= .returned (.pointer (some ⟨a,0,none⟩))∧Idx w' a 0 R∧Below W.heap.size W w' from(new_any f).mono fun e w' ⟨a,h1,h2,h3⟩=>⟨a,_,h1,h2,h3⟩
 have I:=yH fun(W:World) (a:Nat) (R:Nat→RecP) (x:Idx W a 0 R)=>show Calls Tryz.prog 30 #[.pointer (some ⟨a,0,none⟩),.int .u64 3] W fun e w'=>e= .returned (.tuple #[.int .i64 0,.int .i64 0])∧Idx w' a 0 R∧Below W.heap.size W w' from(aHW x 3).mono fun e w' ⟨r,c,h1,h2,h3,h4⟩=>by
  have H:r=0:=Nat.le_zero.1 h2.1
  have J:c=0:=Nat.le_zero.1 (h3 0 (by decide))
  subst H J
  exact⟨h1,x.below h4,h4⟩
 go_wp2_with(first
  |(go_at_call 11;((refine HI.out.mono ?_);rintro e w2 ⟨A,c,m,n,rfl,o,t,y⟩;have HG:=yH (D.out m n o A c w2 _ t);have Z:=yH y;clear o t y))
  |(go_at_call 60;((refine HG.out.mono ?_);rintro e w3 ⟨gf,g,h,j,E,k,l,P,cp,rfl,d,z⟩;have V:=yH (Z.out.trans (z.mono Z.out.size));have L:=yH (G.out w3 gf g h j E k l P cp d);clear d z))
  |(go_at_call 61;((refine L.out.mono ?_);rintro e w4 ⟨a,R,rfl,s,u⟩;have Y:=yH (V.out.trans (u.mono V.out.size));have M:=yH (I.out w4 a R s);clear s u))
  |(go_at_call 30;((refine M.out.mono ?_);rintro e w5 ⟨rfl,s,v⟩;have B5:=yH (Y.out.trans (v.mono Y.out.size));have HL:=yH (aFN s);clear s v))
  |(go_at_call 28;((refine HL.out.mono ?_);rintro e w6 ⟨rfl,rfl⟩))
  |fail)
 go_ret
 exact⟨rfl,B5.out⟩
end Skf
namespace SeekRecordsW
open Bytes8 OwnE Ga Gb Gj Ma Mh Na Np Ns Nt Nu Rn Rp Rr Va Zg Zh Zl Seq8 Kf Jd Je Jf Ji Skc Skf
open Go1 (hcode)
attribute [local irreducible] HD.cells wpList Code.wp
theorem aLS {m:Mk}{n0:Nat}{p:List Za.O}{hs:Nat→List Nat}{i:List Nat}{l:List (Nat×List Int)}(k:Kept m n0 p hs i l){st:Int}(e:0≤st∧st≤2)(A:Option Addr)(c:Nat)(w:World)(g:Bytes w A (stL m st))(o:m.b.length≤c):
 Calls Tryz.prog 26 #[.slice A m.b.length c] w (Op16 (hdOf (stL m st)) (stL m st) m.b.length (toI i) w):=by
 have a:=k.good.img
 have d:=a.lens
 have n:=st_len a st
 obtain⟨j,q⟩:=aOm a e
 have f:=(aNL k e).1
 have h:=Skf.open_fine (stL m st) A m.b.length c w g n (by omega) o (aIU a e) m.b.length j q (yR _) (aDk g.1 21)
 rw[List.take_of_length_le (by omega),f]at h
 exact h
theorem aLT (h:HD)(l:List Int)(E:Nat)(out:List Int)(n:Nat)(k:Nat)(a:k<(goodL h l E out n).length):(goodRecs h l E out n).getD k dP=rK h l E out n k:=by
 unfold goodRecs rK
 rw[List.getD_eq_getElem?_getD,List.getElem?_map,List.getD_eq_getElem?_getD,List.getElem?_eq_getElem a]
 rfl
theorem aDu (h:HD)(l:List Int)(E:Nat)(out:List Int)(n:Nat):(goodRecs h l E out n).length=(goodL h l E out n).length:=List.length_map _
end SeekRecordsW
end Go.Proofs.YtlelnfokffflnaaGreat
