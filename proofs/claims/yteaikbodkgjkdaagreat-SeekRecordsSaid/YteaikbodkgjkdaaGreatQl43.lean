/-
  Texts beneath.
-/
import Derived.Test.YteaikbodkgjkdaaGreatQl42
set_option linter.unusedVariables false
set_option linter.unusedSimpArgs false
set_option maxRecDepth 100000
set_option maxHeartbeats 4000000
open Go.ChangeShapes Go.WideShapes Go.ChangeAt Go.RowKit
namespace Go.Proofs.YteaikbodkgjkdaaGreat
namespace Skf
open Bytes8 Blk8 Own8 OwnM OwnE Rows2 Ob Od Ga Gb Gf Gj Ma Kf Mh Na Np Nr Ns Nt Nu Rc Rn Rp Rr Va Wa Ls Pr8 Dc Zg Zj Zl Ja Jb Jd Je Jj Ska Skc Skd
open Go1 (hcode)
open Yg (NewIn)
def RowsN (xs:List Value)(k:Nat)(Q:Nat→RecP):Prop:=xs.length=20*k∧ ∀i,i<k→ ∃F cc,(xs.drop (20*i)).take 20=recL (Q i).s (Q i).r (Q i).m (Q i).K (.slice F (Q i).n cc)
theorem RowsN.nil (Q:Nat→RecP):RowsN [] 0 Q:=⟨rfl,fun i h=>absurd h (Nat.not_lt_zero i)⟩
theorem RowsN.snoc {xs:List Value}{k:Nat}{Q:Nat→RecP}(h:RowsN xs k Q){r:RecP}(j:Q k=r)(F:Option Addr)(a:Nat):RowsN (xs++recL r.s r.r r.m r.K (.slice F r.n a)) (k+1) Q:=by
 subst j
 obtain⟨c,g⟩:=h
 have b:(recL (Q k).s (Q k).r (Q k).m (Q k).K (.slice F (Q k).n a)).length=20:=rfl
 refine⟨by rw[yA,b,c];omega,fun i hi=>?_⟩
 by_cases f:i<k
 ·obtain⟨l,d,e⟩:=g i f
  refine⟨l,d,?_⟩
  rw[List.drop_append_of_le_length (by omega),List.take_append_of_le_length (by rw[List.length_drop];omega)]
  exact e
 ·have e:i=k:=by omega
  subst e
  refine⟨F,a,?_⟩
  rw[List.drop_append,List.drop_of_length_le (by omega),List.nil_append,c,Nat.sub_self,List.drop_zero,List.take_of_length_le (by rw[b];exact yR _)]
def RecsTold (m:Nat)(Q:Nat→RecP)(w:World)(e:Ending)(w':World):Prop:= ∃A c xs B,e= .returned (.slice A m c)∧OwnE 64 20 w' B A m c xs∧RowsN xs m Q∧Below w.heap.size w w'
attribute [local irreducible] HD.cells wpList Code.wp
theorem aGQ {w:World}{gf gv:Nat}{h:HD}{d:Int}{A:Option Addr}{E c:Nat}{l:List Int}{P:Option Addr}{n cp:Nat}{out:List Int}{cd:Int}(f:FileR w gf gv h d A E c l P n cp out cd):
 Calls Tryz.prog 75 #[.pointer (some ⟨gf,0,none⟩)] w (RecsTold (goodL h l E out n).length (a h l E out n) w):=by
 have ah:=f.nb
 have HG:=yH (aLJ f)
 have HR:=yH fun(x:Nat) (hx:x<n) (W:World) (hW:Below w.heap.size w W)=>aLI (f.below hW) x hx
 have p:=(aAR (jC h l E out) (fun x=>(jR h l E out x).s) n)
 have N: ∀x∈goodL h l E out n,x<n:=fun x hx=>(p.1 x hx).1
 have aj:(goodL h l E out n).length≤n:=p.2.1
 have H: ∀x,jR h l E out x=recP h l E (out.getD x 0).toNat:=fun _=>rfl
 simp only[←H]at HR
 have v: ∀k,a h l E out n k=jR h l E out ((goodL h l E out n).getD k 0):=fun _=>rfl
 have HQ:=yH v
 clear f H p v
 have C:=yH N
 generalize a h l E out n=Q at*
 generalize goodL h l E out n=L at*
 generalize jR h l E out=R at*
 unfold TellR at HR
 unfold RecsTold
 clear N
 go_enter Tryz.func75,Tryz.ntmps75
 go_upto_region 2 with(first
  |(go_at_call 52;(refine HG.out.mono ?_);rintro e w1 ⟨A1,m,c1,rfl,I,M,aa⟩;have O1:=yH I;have L1:=yH M;have B1:=yH aa;clear I M aa)
  |fail)
 clear HG
 have an:m≤800000:=by have:=L1.out;omega
 have S1:=yH (yB w1.heap.size w1)
 have N1:=yH (OwnE.nil (E:=64) (size:=20) w1 w1.heap.size (yR _))
 have Q1:=yH (RowsN.nil Q)
 go_wp2_with fail
 go_loopw [4,5] (fun s i wr=> ∃(k:Nat) (Z:Option Addr) (G:Nat) (xs:List Value),k≤m∧s= .slice Z k G∧i= .int .i64 (k:Int)∧Hid (OwnE 64 20 wr w1.heap.size Z k G xs)∧Hid (RowsN xs k Q)∧Hid (Below w1.heap.size w1 wr)) (fun _ i _=>m-Rn.natOf i)
 case atStart=>exact⟨0,none,0,[],Nat.zero_le _,rfl,rfl,N1,Q1,S1⟩
 case round=>
  obtain⟨k,Z,G,xs,hk,rfl,rfl,hO,v,hB⟩:=hrel
  by_cases q:k<m
  ·have ad:decide ((k:Int)<(m:Int))=true:=by simp;omega
   have am:(k:Int)<(m:Int):=by omega
   have ai:IntKind.i64.wrap ((k:Int)+1)=((k+1:Nat):Int):=by rw[IntKind.wrap_i64];omega
   have X:k<L.length:=by rw[L1.out];exact q
   have V:L.getD k 0=L[k]:=by simp[yG X]
   obtain⟨gL,rfl,ao⟩:=aPf (O1.out.kept hB.out (yR _)) L1.out (fun x hx=>by have:=C.out x hx;omega) k q
   have z:=C.out (L.getD k 0) (by rw[V];exact List.getElem_mem X)
   have u:=yH (HR.out (L.getD k 0) z wr (B1.out.trans (hB.out.mono B1.out.size)))
   have ab:=yH (HQ.out k)
   clear HR V z
   generalize R (L.getD k 0)=r at*
   generalize L.getD k 0=x at*
   obtain⟨rs,j,o,a,g,al⟩:=r
   dsimp only at u
   generalize rcode h l E (out.getD x 0).toNat=ak at*
   go_upto_region 7 with(first
    |(go_at_call 96;(refine u.out.mono ?_);rintro e w2 ⟨F,cf,rfl,_,Y⟩;have b2:=yH Y;clear Y)
    |((with_reducible apply aAa (.tmp 6) (.tmp 23));refine wpList_store_row rfl 64 (.tmp 6) (.tmp 23) rfl w2.heap.size (recL rs j o a (.slice F g cf)).toArray rfl rfl 64 zR (heap_alloc_new w2 _) (aAm _ _ _ _ _) rfl (by simp[Value.oneCell']) ?_)
    |fail)
   have R3:=yH (show Blk ((w2.alloc (.cells zR 64)).setRow w2.heap.size (recL rs j o a (.slice F g cf)).toArray) w2.heap.size (recL rs j o a (.slice F g cf)) 64 from setRow_heap _ _ _ _ _ (0,0) (heap_alloc_new w2 _))
   have b3:=yH (show Below w2.heap.size w2 ((w2.alloc (.cells zR 64)).setRow w2.heap.size (recL rs j o a (.slice F g cf)).toArray)from below_setRow ((yB _ _).alloc (yR _) _) (yR _) _)
   generalize (w2.alloc (.cells zR 64)).setRow w2.heap.size (recL rs j o a (.slice F g cf)).toArray=w3 at*
   have B:=yH (b2.out.trans (b3.out.mono b2.out.size))
   have B3:=yH (hB.out.trans (B.out.mono hB.out.size))
   have O3:=yH (hO.out.kept B.out (yR _))
   have Q3:=yH (v.out.snoc ab.out F cf)
   dsimp only at Q3
   have t:=yH (OwnE.alloc O3.out (.cells (recL rs j o a (.slice F g cf)).toArray 64))
   have ae:=yH (Nu.aIF rs j o a F g cf)
   have ac:=yH ((yB w3.heap.size w3).alloc (yR _) (.cells (recL rs j o a (.slice F g cf)).toArray 64))
   clear u b2 b3 hO v
   generalize w2.heap.size=g2 at*
   go_wp2_with(first
    |((with_reducible apply aAb 26);refine wpList_load_row rfl 64 (.tmp 6) rfl g2 rfl 64 (recL rs j o a (.slice F g cf)).toArray (0,0) _ R3.out Tryz.underlying64 rfl (aAm _ _ _ _ _) ?_)
    |(at_builtin;refine wpList_append_new aOf rfl (.tmp 25) (.tmp 27) rfl w1.heap.size Z k G xs rfl t.out ⟨w3.heap.size,0,none⟩ 1 1 (recL rs j o a (.slice F g cf)) rfl rfl (Blk.news (Blk.new w3 _ _)) ae.out (by omega) (by omega) (by unfold maxLen;omega) ?_;intro A6 c6 w6 y J D;have O6:=yH y;have G6:=yH J;clear y J D)
    |fail)
   have B6:=yH ((B3.out.trans (ac.out.mono B3.out.size)).trans (Own8.below_grown G6.out (by have:=t.out.1;omega) (fun b hb=>(Dc.OwnE.ltB t.out b hb).1)))
   go_roundw
   case rel=>exact⟨k+1,A6,c6,_,q,rfl,rfl,O6,Q3,B6⟩
   case measure=>simp[Rn.natOf];omega
  ·have ad:decide ((k:Int)<(m:Int))=false:=by simp;omega
   have af:k=m:=by omega
   subst af
   have ag:=L1.out
   go_wp2_with fail
   go_ret
   rw[ag]
   exact⟨Z,G,xs,w1.heap.size,rfl,hO.out,v.out,B1.out.trans (hB.out.mono B1.out.size)⟩
def Op16 (h:HD)(l:List Int)(E:Nat)(out:List Int)(w:World)(e:Ending)(w':World):Prop:= ∃gx A c xs B,e= .returned (.tuple #[.pointer (some ⟨gx,0,none⟩),.slice A (goodL h l E out out.length).length c])∧Idx w' gx (goodL h l E out out.length).length (rK h l E out out.length)∧OwnE 64 20 w' B A (goodL h l E out out.length).length c xs∧RowsN xs (goodL h l E out out.length).length (rK h l E out out.length)∧Below w.heap.size w w'
theorem open_fine (l:List Int)(A:Option Addr)(n c:Nat)(w:World)(Y:Bytes w A l)(hL:l.length=n)(hn:n≤800000)(hc:n≤c)(L:hcode l n=0)(E:Nat)(J:endV (hdOf l)=(E:Int))(d:endB (hdOf l)=true)(q:E≤n)(j:(hdOf l).Ok 21):
 Calls Tryz.prog 31 #[.slice A n c] w (Op16 (hdOf l) (l.take E) E (chase (hdOf l) (l.take E) E ((hdOf l).N 8) 14 2 (E+1) [] ((hdOf l).N 11).toNat 0).1 w):=by
 have b:=yH fun(W:World) (hW:Bytes W A l)=>aE6 l A n c W hW hL hn hc L E J d q j
 have G:=yH fun(W:World) (hW:Bytes W A l)=>aGN l A n c W hW hL hn hc L E J d q j
 unfold JOpened at b
 unfold ROpened at G
 have I:=yH Y
 clear Y L J d j
 unfold Op16
 generalize hdOf l=H at*
 generalize Ob.u8 l 248=dp at*
 generalize chase H (l.take E) E (H.N 8) 14 2 (E+1) [] (H.N 11).toNat 0=R at*
 obtain⟨out,cd⟩:=R
 dsimp only at*
 generalize l.take E=a at*
 have u:=yH fun(W:World) (gf z:Nat) (y:Option Addr) (B:Nat) (C:Option Addr) (p cp:Nat) (f:FileAt W gf z H y E B a C p cp out cd)=>show Calls Tryz.prog 74 #[.pointer (some ⟨gf,0,none⟩)] W fun e w'=> ∃D,e= .returned (.pointer (some ⟨D,0,none⟩))∧Idx w' D (goodL H a E out out.length).length (rK H a E out out.length)∧Below W.heap.size W w' from by
  have e:p=out.length:=f.len.symm
  subst e
  exact new_any f
 have o:=yH fun(W:World) (gf z:Nat) (y:Option Addr) (B:Nat) (C:Option Addr) (p cp:Nat) (f:FileR W gf z H dp y E B a C p cp out cd)=>show Calls Tryz.prog 75 #[.pointer (some ⟨gf,0,none⟩)] W (RecsTold (goodL H a E out out.length).length (rK H a E out out.length) W)from by
  have e:p=out.length:=f.len.symm
  subst e
  exact aGQ f
 generalize rK H a E out out.length=Rr at*
 generalize (goodL H a E out out.length).length=m at*
 unfold RecsTold at o
 go_enter Tryz.func31,Tryz.ntmps31
 go_upto_region 2 with(first
  |(go_at_call 12;((refine(b.out _ I.out).mono ?_);rintro e w4 ⟨gf,z,y,B,C,p,cp,rfl,hf,k⟩;have r:=yH hf;have X:=yH k;have v:=yH (I.out.below k (yR _));clear hf k))
  |fail)
 go_upto_region 5 with(first
  |(go_at_call 13;((refine(G.out _ v.out).mono ?_);rintro e w5 ⟨gr,gw,Aw,cw,Pq,ab,aa,rfl,hr,g⟩;have HR:=yH hr;have Z:=yH (r.out.below g);have B5:=yH (X.out.trans (g.mono X.out.size));clear hr g))
  |fail)
 have HN:=yH (u.out _ _ _ _ _ _ _ _ Z.out)
 have V:=yH fun(W:World) (hW:Below w5.heap.size w5 W)=>o.out _ _ _ _ _ _ _ _ (HR.out.below hW)
 clear b G I v X r Z HR u o
 go_wp2_with(first
  |(go_at_call 74;((refine HN.out.mono ?_);rintro e w6 ⟨D,rfl,hx,s⟩;have HX:=yH hx;have F:=yH s;clear hx s))
  |(go_at_call 75;((refine(V.out _ F.out).mono ?_);rintro e w7 ⟨A7,c7,xs,B0,rfl,t,x,i⟩;have M:=yH (HX.out.below i);have O7:=yH t;have R7:=yH x;have B7:=yH (B5.out.trans ((F.out.trans (i.mono F.out.size)).mono B5.out.size));clear t x i))
  |fail)
 go_ret2
 exact⟨D,A7,c7,xs,B0,rfl,M.out,O7.out,R7.out,B7.out⟩
theorem aDg (w:World):Calls Tryz.prog 30 #[] w fun e w'=>e= .returned (.bool true)∧Below w.heap.size w w':=by
 have HI:=yH (aOY none 0 0 (fun _=>0) 0 w (fun i hi=>absurd hi (Nat.not_lt_zero i)) (by decide) (by decide))
 unfold ImagedN at HI
 go_enter Tryz.func30,Tryz.ntmps30
 have F:=yH fun(m:Mk) (n:Nat) (hg:GoodN m n 0) (A:Option Addr) (c:Nat) (W:World) (B:Nat) (ho:Own8.Own W B A m.b.length c (imgB m))=>show Calls Tryz.prog 12 #[.slice A m.b.length c] W fun e w'=> ∃(gf d:Nat) (h:HD) (k:Option Addr) (E g:Nat) (l:List Int) (P:Option Addr) (cp:Nat),e= .returned (.tuple #[.pointer (some ⟨gf,0,none⟩),.int .i64 0])∧FileAt w' gf d h k E g l P 0 cp [] 0∧Below W.heap.size W w' from by
  have s:=hg.img
  have D:=s.lens
  have hL:=st_len s 1
  obtain⟨J,G⟩:=aOm s (st:=1) (by decide)
  have X:=((aEu s (st:=1) (by decide)).N 8 (by decide)).trans (aHS m 1 8 (by decide))
  rw[if_neg (by decide),hg.cnt,show(n:Int)=0 by have:=hg.le;omega]at X
  refine(aE6 (stL m 1) A m.b.length c W ho.bytes hL (by omega) (aBs ho).1 (aIU s (by decide)) m.b.length J G (yR _) (aDk ho.bytes.1 21)).mono ?_
  rintro e w' ⟨gf,d,k,g,P,q,cp,rfl,j,hb⟩
  have M:=aAN (hdOf (stL m 1)) ((stL m 1).take m.b.length) m.b.length 0 14 2 (m.b.length+1) [] ((hdOf (stL m 1)).N 11).toNat 0 rfl
  rw[X,M]at j
  dsimp only at j
  have hq:q=0:=j.len.symm
  subst hq
  exact⟨gf,d,_,k,_,g,_,P,cp,rfl,j,hb⟩
 have I:=yH fun(W:World) (gf d:Nat) (h:HD) (k:Option Addr) (E g:Nat) (l:List Int) (P:Option Addr) (cp:Nat) (f:FileAt W gf d h k E g l P 0 cp [] 0)=>show Calls Tryz.prog 74 #[.pointer (some ⟨gf,0,none⟩)] W fun e w'=> ∃a R,e= .returned (.pointer (some ⟨a,0,none⟩))∧Idx w' a 0 R∧Below W.heap.size W w' from(new_any f).mono fun e w' ⟨a,h1,h2,h3⟩=>⟨a,_,h1,h2,h3⟩
 have L:=yH fun(W:World) (a:Nat) (R:Nat→RecP) (x:Idx W a 0 R)=>show Calls Tryz.prog 34 #[.pointer (some ⟨a,0,none⟩),.int .u64 3] W fun e w'=>e= .returned (.tuple #[.int .i64 0,.int .i64 0])∧Idx w' a 0 R∧Below W.heap.size W w' from(aHT x 3).mono fun e w' ⟨r,c,h1,h2,h3,h4⟩=>by
  have J:r=0:=Nat.le_zero.1 h2.1
  have G:c=0:=Nat.le_zero.1 (h3 0 (by decide))
  subst J G
  exact⟨h1,x.below h4,h4⟩
 go_wp2_with(first
  |(go_at_call 11;((refine HI.out.mono ?_);rintro e w2 ⟨A,c,m,n,rfl,o,y,t⟩;have HG:=yH (F.out m n o A c w2 _ y);have Z:=yH t;clear o y t))
  |(go_at_call 12;((refine HG.out.mono ?_);rintro e w3 ⟨gf,d,h,k,E,g,l,P,cp,rfl,j,z⟩;have V:=yH (Z.out.trans (z.mono Z.out.size));have H:=yH (I.out w3 gf d h k E g l P cp j);clear j z))
  |(go_at_call 74;((refine H.out.mono ?_);rintro e w4 ⟨a,R,rfl,u,v⟩;have Y:=yH (V.out.trans (v.mono V.out.size));have C:=yH (L.out w4 a R u);clear u v))
  |(go_at_call 34;((refine C.out.mono ?_);rintro e w5 ⟨rfl,u,p⟩;have B5:=yH (Y.out.trans (p.mono Y.out.size));have HL:=yH (aFN u);clear u p))
  |(go_at_call 32;((refine HL.out.mono ?_);rintro e w6 ⟨rfl,rfl⟩))
  |fail)
 go_ret
 exact⟨rfl,B5.out⟩
end Skf
namespace SeekRecordsW
open Bytes8 OwnE Ga Gb Gj Ma Mh Na Np Ns Nt Nu Rn Rp Rr Va Zg Zh Zl Seq8 Kf Jd Je Jf Ji Skc Skf
open Go1 (hcode)
attribute [local irreducible] HD.cells wpList Code.wp
theorem aLR {m:Mk}{n0:Nat}{n:List Za.O}{hs:Nat→List Nat}{i:List Nat}{j:List (Nat×List Int)}(k:Kept m n0 n hs i j){st:Int}(e:0≤st∧st≤2)(A:Option Addr)(c:Nat)(w:World)(g:Bytes w A (stL m st))(o:m.b.length≤c):
 Calls Tryz.prog 31 #[.slice A m.b.length c] w (Op16 (hdOf (stL m st)) (stL m st) m.b.length (toI i) w):=by
 have a:=k.good.img
 have d:=a.lens
 have p:=st_len a st
 obtain⟨l,q⟩:=aOm a e
 have f:=(aNL k e).1
 have h:=Skf.open_fine (stL m st) A m.b.length c w g p (by omega) o (aIU a e) m.b.length l q (yR _) (aDk g.1 21)
 rw[List.take_of_length_le (by omega),f]at h
 exact h
theorem aLS (h:HD)(l:List Int)(E:Nat)(out:List Int)(n:Nat)(k:Nat)(a:k<(goodL h l E out n).length):(goodRecs h l E out n).getD k dP=rK h l E out n k:=by
 unfold goodRecs rK
 rw[yD,List.getElem?_map,yD,yG a]
 rfl
theorem aDu (h:HD)(l:List Int)(E:Nat)(out:List Int)(n:Nat):(goodRecs h l E out n).length=(goodL h l E out n).length:=List.length_map _
end SeekRecordsW
end Go.Proofs.YteaikbodkgjkdaaGreat
