/-
  Texts beneath.
-/
import Derived.Test.YteaikbodkgjkdaaGreatQl36
set_option linter.unusedVariables false
set_option linter.unusedSimpArgs false
set_option maxRecDepth 100000
set_option maxHeartbeats 16000000
open Go.ChangeShapes Go.WideShapes Go.ChangeAt Go.RowKit
namespace Go.Proofs.YteaikbodkgjkdaaGreat
namespace Vc
open Bytes8 Blk8 Own8 OwnE OwnA Rows2 Ob Ga Gb Gi Ok7 Np Nr Sg Pr8 Fa Fsp Fe Dc Ya Hm Se Rc Rk Rm Rr Va Vb
open Yc Yp Yd Ye Yg Yh
open Rn (payP rcodeF rcode RC aLn aDd aCk aBG In2.older aE2 aE3 aEo LR.start aEp aAo ent_cell natOf)
open Ri (ecode9 ez)
open Rd (dcode dz)
theorem aLv (a:Option Addr)(n l:Nat)(A:Nat→Option Addr)(L C:Nat→Nat)(P:Nat→List Int)(w:World)(h:InRows w a n A L C P)(B:n≤1000000)(u: ∀r,r<n→L r≤800000):
 Calls Tryz.prog 70 #[.slice a n l] w fun e w'=>e= .returned (.int .u64 ((xr (rowsL P n):Nat):Int))∧w=w':=by
 have v:=yH h
 clear h
 go_enter Tryz.func70,Tryz.ntmps70
 go_wp2
 go_loopw [3,4] (fun s i wr=> ∃k:Nat,k≤n∧i= .int .i64 (k:Int)∧s= .int .u64 ((xr (rowsL P k):Nat):Int)∧wr=w) (fun _ i _=>n-natOf i)
 case atStart=>exact⟨0,Nat.zero_le _,rfl,rfl,rfl⟩
 case round=>
  obtain⟨k,D,rfl,rfl,rfl⟩:=hrel
  by_cases d:k<n
  ·obtain⟨b,p,rfl,z,E,f,m,j,g⟩:=v.out k d
   have x:=u k d
   have c:=yH (aEs (A k) (P k) (L k) (C k) wr f m (by omega))
   have y:=yH (aHV P k)
   have t:(0:Int)≤(k:Int):=by omega
   have o:(k:Int)<(n:Int):=by omega
   clear f m j g
   generalize P k=q at*
   go_wp2_with(first|(go_at_call 114;(with_reducible refine c.out.mono ?_);rintro e w2 ⟨rfl,rfl⟩)|fail)
   go_roundw
   case rel=>exact⟨k+1,by omega,by go_num,by rw[y.out],trivial⟩
   case measure=>simp[natOf];omega
  ·obtain rfl:k=n:=by omega
   go_wp2
   go_ret
   exact⟨rfl,rfl⟩
theorem aHJ {h:HD}{l:List Int}{n a:Nat}(b:hcode9 h l n a=0):payT h l n a=bpay l a 1 6∧hH h l n a=bnum l a 1 6 0:=⟨if_pos b,if_pos b⟩
attribute [local irreducible] wpList Code.wp ofS bnum bpay bcode hcode9 icode splitE splitN splitV xr rowsL prsL lcode payT hH
theorem aNA {gv:Nat}{h:HD}{d:Int}{A:Option Addr}{n c:Nat}{l:List Int}(a:Nat)(w:World)(v:ViewR w gv h d A n c l):
 Calls Tryz.prog 130 #[.pointer (some ⟨gv,0,none⟩),.int .u64 (a:Int)] w (TellR (recP h l n a) (rcode h l n a) w):=by
 have b1:=yH ((yB w.heap.size w).alloc (yR _) (.cells zR 64))
 have v1:=v.below b1.out
 have HV:=yH (aNw a _ v1)
 have Vw:=yH fun(W:World) (hW:Below w.heap.size w W)=>v.below hW
 have Z1:=yH (heap_alloc_new w (.cells zR 64))
 have s1:=yH (show w.heap.size<(w.alloc (.cells zR 64)).heap.size by simp)
 have bv:l.length≤800000:=by have h1:=v.len;have h2:=v.big;omega
 unfold TellR
 have x:=yH (aLn h l n (ecode9 h l n a) (eN l a) (itA (bodyL l a)) (itH (bodyL l a)) (eNum l a 40))
 have q:=yH (show rcode h l n a≠0→recP h l n a=⟨0,0,0,fun _=>0,0,[]⟩from fun J=>if_neg J)
 have ai:=yH (show rcode h l n a=0→recP h l n a=⟨eNum l a 0,eNum l a 8,eNum l a 16,eK l a,eN l a,prsL (payP l (itA (bodyL l a))) (eN l a)⟩from fun J=>if_pos J)
 have a6:rcode h l n a=rcodeF h l n (ecode9 h l n a) (eN l a) (itA (bodyL l a)) (itH (bodyL l a)) (eNum l a 40):=rfl
 rw[a6]at q ai⊢
 clear a6
 generalize rcodeF h l n (ecode9 h l n a) (eN l a) (itA (bodyL l a)) (itH (bodyL l a)) (eNum l a 40)=rc at*
 generalize recP h l n a=rp at*
 unfold TellE at HV
 by_cases J:ecode9 h l n a≠0
 ·have f:=x.out.a J
  rw[←f]at J
  have X:=q.out J
  rw[←f]at HV
  subst X
  clear v v1 x q ai f
  generalize eN9 h l n a 0=t at*
  generalize eN9 h l n a 8=s at*
  generalize eN9 h l n a 16=g at*
  generalize eN9 h l n a 40=j at*
  generalize eK9 h l n a=r at*
  generalize eC9 h l n a=B at*
  have d1:(rc !=0)=true:=by simpa using J
  go_enter Tryz.func130,Tryz.ntmps130
  go_upto_region 3 with(first
   |(go_at_call 161;(refine HV.out.mono ?_);rintro e w2 ⟨y,A2,c2,rfl,au,aG⟩;have B2:=yH (b1.out.trans (y.mono b1.out.size));have Z2:=yH ((y.block _ s1.out).trans Z1.out);have ag:=yH (show w.heap.size<w2.heap.size from yL s1.out y.size);clear y au aG)
   |((with_reducible apply aAa (.tmp 6) (.tmp 20));refine wpList_store_row rfl 150 (.tmp 6) (.tmp 20) rfl w2.heap.size (entL t s g r j A2 B c2).toArray rfl rfl 150 ez (heap_alloc_new w2 _) (by kernel_rfl) rfl (by first|exact aBB _ _ _ _ _ _ _ _|exact aCt) ?_)
   |fail)
  have D:=yH (show Below w2.heap.size w2 ((w2.alloc (.cells ez 150)).setRow w2.heap.size (entL t s g r j A2 B c2).toArray)from below_setRow ((yB _ _).alloc (yR _) _) (yR _) _)
  generalize (w2.alloc (.cells ez 150)).setRow w2.heap.size (entL t s g r j A2 B c2).toArray=w3 at*
  have Z3:=yH ((D.out.block _ ag.out).trans Z2.out)
  have B3:=yH (B2.out.trans (D.out.mono B2.out.size))
  go_wp2_with(first
   |((with_reducible apply aAb 24);refine Yz.wpList_build_as rfl 64 _ rfl zR (by kernel_rfl) ?_)
   |((with_reducible apply aAa (.tmp 4) (.tmp 24));refine wpList_store_row rfl 64 (.tmp 4) (.tmp 24) rfl w.heap.size zR rfl rfl 64 zR Z3.out (by kernel_rfl) rfl (aAo 0 0 0 (fun _=>0) none 0 0) ?_)
   |fail)
  refine bodyPost_ret (v:= .tuple #[.agg zR,.int .i64 rc]) (by exact aAq Tryz.results130 _ _ w.heap.size 64 _ (0,0) _ _ rfl rfl (setRow_heap _ w.heap.size _ _ _ (0,0) Z3.out) Tryz.underlying64 rfl (by kernel_rfl)) rfl ?_
  first|exact⟨none,0,rfl,Prs.nil _ _,below_setRow B3.out (yR _) _⟩|exact⟨none,⟨0,rfl⟩,Prs.nil _ _,below_setRow B3.out (yR _) _⟩
 have J:ecode9 h l n a=0:=by omega
 have hr:rng h n a:=by
  by_cases hr:rng h n a
  ·exact hr
  ·rw[show ecode9 h l n a=2 from if_neg hr]at J;cases J
 have q0: ∀i,eN9 h l n a i=eNum l a i:=fun i=>if_pos hr
 have q1:eK9 h l n a=eK l a:=if_pos hr
 have q2:eC9 h l n a=eN l a:=if_pos hr
 rw[J,q0 0,q0 8,q0 16,q0 40,q1,q2]at HV
 rw[J]at x
 clear q0 q1 q2 hr J v v1
 generalize eNum l a 0=t at*
 generalize eNum l a 8=s at*
 generalize eNum l a 16=g at*
 generalize eNum l a 40=j at*
 generalize eK l a=r at*
 generalize eN l a=B at*
 generalize itA (bodyL l a)=R at*
 generalize itH (bodyL l a)=fh at*
 go_enter Tryz.func130,Tryz.ntmps130
 go_upto_region 4 with(first
  |(go_at_call 161;(refine HV.out.mono ?_);rintro e w2 ⟨y,A2,c2,rfl,au,aG⟩;have B2:=yH (b1.out.trans (y.mono b1.out.size));have a0:=yH au;have Z2:=yH ((y.block _ s1.out).trans Z1.out);have ag:=yH (show w.heap.size<w2.heap.size from yL s1.out y.size);clear y au aG)
  |((with_reducible apply aAa (.tmp 6) (.tmp 20));refine wpList_store_row rfl 150 (.tmp 6) (.tmp 20) rfl w2.heap.size (entL t s g r j A2 B c2).toArray rfl rfl 150 ez (heap_alloc_new w2 _) (by kernel_rfl) rfl (by first|exact aBB _ _ _ _ _ _ _ _|exact aCt) ?_)
  |fail)
 have R3:=yH (show Blk ((w2.alloc (.cells ez 150)).setRow w2.heap.size (entL t s g r j A2 B c2).toArray) w2.heap.size (entL t s g r j A2 B c2) 150 from setRow_heap _ _ _ _ _ (0,0) (heap_alloc_new w2 _))
 have D:=yH (show Below w2.heap.size w2 ((w2.alloc (.cells ez 150)).setRow w2.heap.size (entL t s g r j A2 B c2).toArray)from below_setRow ((yB _ _).alloc (yR _) _) (yR _) _)
 generalize (w2.alloc (.cells ez 150)).setRow w2.heap.size (entL t s g r j A2 B c2).toArray=w3 at*
 have B3:=yH (B2.out.trans (D.out.mono B2.out.size))
 have bu:=yH (In2.older a0.out D.out)
 have Z3:=yH ((D.out.block _ ag.out).trans Z2.out)
 have bD:w.heap.size<w3.heap.size:=yL ag.out D.out.size
 have bK:w2.heap.size<w3.heap.size:=R3.out.lt
 generalize w2.heap.size=s5 at*
 obtain⟨c0,c1,aY,a4,bB⟩:=ent_cell R3.out
 clear HV B2 a0 Z2 ag D Z1 s1
 by_cases bf:16<B
 ·have f:=x.out.b rfl bf
  subst f
  have X:=q.out (by decide)
  subst X
  have dd:decide ((B:Int)>16)=true:=by simp;omega
  clear c0 c1 aY a4 x q ai
  go_upto_region 5 with fail
  go_wp2_with(first
   |((with_reducible apply aAb 30);refine Yz.wpList_build_as rfl 64 _ rfl zR (by kernel_rfl) ?_)
   |((with_reducible apply aAa (.tmp 4) (.tmp 30));refine wpList_store_row rfl 64 (.tmp 4) (.tmp 30) rfl w.heap.size zR rfl rfl 64 zR Z3.out (by kernel_rfl) rfl (aAo 0 0 0 (fun _=>0) none 0 0) ?_)
   |fail)
  refine bodyPost_ret (v:= .tuple #[.agg zR,.int .i64 21]) (by exact aAq Tryz.results130 _ _ w.heap.size 64 _ (0,0) _ _ rfl rfl (setRow_heap _ w.heap.size _ _ _ (0,0) Z3.out) Tryz.underlying64 rfl (by kernel_rfl)) rfl ?_
  first|exact⟨none,0,rfl,Prs.nil _ _,below_setRow B3.out (yR _) _⟩|exact⟨none,⟨0,rfl⟩,Prs.nil _ _,below_setRow B3.out (yR _) _⟩
 have dd:decide ((B:Int)>16)=false:=by simp;omega
 have aR:=yH (aEp R3.out)
 go_upto_region 7 with(first
  |((with_reducible apply aAb 38);refine wpList_load_mid rfl 61 (.tmp 37) rfl s5 3 rfl (idJ r) _ aR.out Tryz.underlying61 rfl (aBl _) ?_)
  |((with_reducible apply aAb 39);refine Yz.wpList_build_as rfl 64 _ rfl (recL t s g r (.slice none 0 0)).toArray (by kernel_rfl) ?_)
  |((with_reducible apply aAa (.tmp 8) (.tmp 39));refine wpList_store_row rfl 64 (.tmp 8) (.tmp 39) rfl w3.heap.size (recL t s g r (.slice none 0 0)).toArray rfl rfl 64 zR (heap_alloc_new w3 _) (aAm _ _ _ _ _) rfl (aAo _ _ _ _ _ _ _) ?_)
  |fail)
 have R5:=yH (show Blk ((w3.alloc (.cells zR 64)).setRow w3.heap.size (recL t s g r (.slice none 0 0)).toArray) w3.heap.size (recL t s g r (.slice none 0 0)) 64 from setRow_heap _ _ _ _ _ (0,0) (heap_alloc_new w3 _))
 have aU:=yH (show Below w3.heap.size w3 ((w3.alloc (.cells zR 64)).setRow w3.heap.size (recL t s g r (.slice none 0 0)).toArray)from below_setRow ((yB _ _).alloc (yR _) _) (yR _) _)
 generalize (w3.alloc (.cells zR 64)).setRow w3.heap.size (recL t s g r (.slice none 0 0)).toArray=w5 at*
 generalize aQ:w3.heap.size=Z at*
 have L0:=yH (LR.start (P:=payP l R) aU.out R5.out)
 have ac:=yH aQ.symm
 clear c0 c1 aY a4 bB aR R5 aU aQ
 go_upto_region 9 with fail
 go_loopw [9,10] (fun p i wr=> ∃(k:Nat) (F:Option Addr) (cF:Nat) (PA:Option Addr) (cP:Nat) (C:List Row4),p= .slice PA k cP∧i= .int .i64 (k:Int)∧k≤B∧Hid (LR w3 wr Z t s g r (payP l R) F cF PA cP C k k)∧Hid (C.length=k)∧Hid (∀i,i<k→icode h l n R fh i=0)) (fun _ i _=>B-natOf i)
 case atStart=>exact⟨0,none,0,none,0,[],rfl,rfl,Nat.zero_le _,L0,yH rfl,yH (fun i hi=>absurd hi (Nat.not_lt_zero i))⟩
 case round=>
  obtain⟨k,F,cF,PA,cP,C,rfl,rfl,hk,HL,ad,z⟩:=hrel
  have BW:=yH (show Below w.heap.size w wr from B3.out.trans (HL.out.old.mono (by omega)))
  have ah:=yH (show Below w3.heap.size w3 wr from ac.out▸HL.out.old)
  have Er:=yH (R3.out.below ah.out (by have:=ac.out;omega))
  have Zr:=yH ((ah.out.block w.heap.size (by have:=ac.out;omega)).trans Z3.out)
  have M:w.heap.size<wr.heap.size:=yL (by have:=ac.out;omega) ah.out.size
  have aS:=(ent_cell Er.out).2.2.2.2
  by_cases aV:k<B
  ·have d1:decide ((k:Int)<(B:Int))=true:=by simp;omega
   have N:=yH fun(e:icode h l n R fh k≠0)=>x.out.c rfl (by omega) k aV z.out e
   obtain⟨bI,oI,rfl,bh,aP,az,bA,bM⟩:=(In2.older bu.out ah.out) k aV
   obtain⟨I,aA⟩: ∃I:Nat,R k=(I:Int):=⟨(R k).toNat,by omega⟩
   rw[aA]at aP
   have aJ:=yH aA
   have aI:=yH (show payP l R k=bpay l I 1 6 by unfold payP;rw[aA,Int.toNat_natCast])
   clear aA bA
   generalize ba:fh k=g2 at*
   have bp:=yH ba
   clear ba
   have bw:=yH fun(W:World) (hW:Below wr.heap.size wr W)=>show W.cell? ⟨bI,oI+k*2+1,none⟩=some (.int .u64 g2)from(hW.cell (p:=⟨bI,oI+k*2+1,none⟩) bh).trans az
   have HH:=yH (aNy I wr (Vw.out wr BW.out))
   unfold TellH at HH
   have bL:(0:Int)≤(k:Int):=by omega
   have bF:(k:Int)<(B:Int):=by omega
   clear ah az
   by_cases hc:hcode9 h l n I=0
   ·obtain⟨t1,t2⟩:=aHJ hc
    rw[hc,t1,t2]at HH
    clear t1 t2
    have bd:=yH (aIK (aE1 hc))
    have ab:=yH fun(e:bnum l I 1 6 0≠fh k)=>aCk (fh:=fh) aJ.out hc e
    have aw:=yH fun(e:bnum l I 1 6 0=fh k)=>aBG (fh:=fh) aJ.out hc e
    have aK:=yH (show(bpay l I 1 6).length≤800000 from Nat.le_trans (aFH l I 1 6) bv)
    rw[bp.out]at ab aw
    generalize bnum l I 1 6 0=y0 at*
    generalize bpay l I 1 6=m at*
    go_upto_region 14 with(first
     |(go_at_call 162;(refine HH.out.mono ?_);rintro e w8 ⟨Y,A3,m3,c3,rfl,al,ay,ap⟩;have G:=yH Y;have av:=yH al;have ao:=yH ap;clear Y al ap)
     |fail)
    obtain⟨E,o3,rfl,a7,_⟩:=av.out.2 0 (by rw[←ay]at*;exact bd.out)
    have am:=yH (BW.out.trans (G.out.mono BW.out.size))
    have ax:=yH (HL.out.below G.out)
    have E8:=yH (Er.out.below G.out Er.out.lt)
    have Z8:=yH ((G.out.block w.heap.size M).trans Zr.out)
    have bz:=(ent_cell E8.out).2.2.2.2
    have az:=bw.out w8 G.out
    have a9:=yH (show Z<E∧ownB F≠some E∧ownB PA≠some E from by
     have h1:=ao.out.2.2.2 E o3 rfl
     have h2:=HL.out.lt
     refine⟨by omega,fun e=>?_,fun e=>?_⟩
     ·have:=(OwnE.ltB HL.out.fld.2.2 E e).2;omega
     ·have:=(OwnE.ltB HL.out.own E e).2;omega)
    have an:=yH (show m3≤c3∧c3≤maxLen from⟨ao.out.2.1,ao.out.2.2.1⟩)
    clear HH aP aS ao HL BW
    by_cases he:y0=g2
    ·have d2:(y0 !=g2)=false:=by simp[he]
     have HI:=yH (aw.out he)
     clear ab aw
     go_upto_region 16 with fail
     have aq:=yH (aJc (some ⟨E,o3,none⟩) m m3 c3 w8 av.out ay (by have:=aK.out;omega) an.out.1 an.out.2)
     unfold Splitted at aq
     clear d1 d2 az bz
     by_cases V:splitE m=0
     ·have aZ:icode h l n R fh k=0:=HI.out.trans V
      rw[V]at aq
      have a2:=yH aZ
      have bc:=yH (show okP (splitN m,splitV m)from aEo av.out.1 (by have:=aK.out;omega))
      clear HI V aZ
      go_upto_region 17 with(first
       |(go_at_call 89;(refine aq.out.mono ?_);rintro e w9 ⟨rfl,H⟩;have aL:=yH H;clear H)
       |fail)
      have bP:=yR w9.heap.size
      have Rp:=yH (show Blk (w9.alloc (.cells #[.string (T (splitN m)),.string (T (splitV m))] 24)) w9.heap.size [.string (T (splitN m)),.string (T (splitV m))] 24 from Blk.new w9 _ _)
      have aM:=yH (show Below w8.heap.size w8 (w9.alloc (.cells #[.string (T (splitN m)),.string (T (splitV m))] 24))from aL.out.alloc aL.out.size _)
      have bm:w8.heap.size≤w9.heap.size:=aL.out.size
      generalize w9.alloc (.cells #[.string (T (splitN m)),.string (T (splitV m))] 24)=wA at*
      generalize w9.heap.size=ae at*
      have bs:=yH (ax.out.below aM.out)
      have bg:=yH (av.out.below aM.out (yR _))
      have bn:=yH (show ownB F≠some ae∧ownB PA≠some ae from⟨fun e=>by have:=(OwnE.ltB ax.out.fld.2.2 _ e).2;omega,fun e=>by have:=(OwnE.ltB ax.out.own _ e).2;omega⟩)
      have bC:Z<ae:=yL ax.out.lt bm
      go_upto_region 19 with fail
      have aT:=yH (bs.out.below ((yB _ _).alloc (yR _) (.cells #[.slice (some ⟨E,o3,none⟩) m3 c3] 26)))
      have bl:=yH (bg.out.below ((yB _ _).alloc (yR _) (.cells #[.slice (some ⟨E,o3,none⟩) m3 c3] 26)) (yR _))
      have aW:=yH (Rp.out.alloc (.cells #[.slice (some ⟨E,o3,none⟩) m3 c3] 26))
      have a5:wA.heap.size<(wA.alloc (.cells #[.slice (some ⟨E,o3,none⟩) m3 c3] 26)).heap.size:=by simp
      have a3:E<wA.heap.size:=yL a7 aM.out.size
      go_upto_region 20 with(first
       |(at_builtin;refine aAe Yb.aOo rfl (.tmp 81) (.tmp 83) rfl (Z+1) PA k cP (C.map Row4.v) rfl aT.out.own ⟨wA.heap.size,0,none⟩ 1 1 [.slice (some ⟨E,o3,none⟩) m3 c3] rfl rfl (Blk.news (Blk.new wA _ _)) (by intro u hu;simp at hu;rw[hu];rfl) (by omega) (by omega) (by unfold maxLen;omega) ?_;intro bj bq w16 aD aj af;have aC:=yH (LR.payload aT.out ⟨E,o3,m3,c3⟩ ad.out (by rw[aI.out];exact⟨bl.out,ay,an.out.1,an.out.2,show m3≤800000 from by have:=aK.out;omega⟩) ⟨a9.out.1,Nat.lt_trans a3 a5,a9.out.2⟩ aD aj af);have aB:=yH (show Blk w16 ae _ _ from(aj.block ae aW.out.lt (fun e=>bn.out.2 e.symm)).trans aW.out);clear aD aj af)
       |fail)
      have bJ:=aC.out.rc.cell (i:=19) rfl
      have bO:=aB.out.cell (i:=0) rfl
      have bN:=aB.out.cell (i:=1) rfl
      have o:=yH (aC.out.below ((yB _ _).alloc (yR _) (.cells #[.string (T (splitN m)),.string (T (splitV m))] 24)))
      have ar:=yH (Blk.new w16 [.string (T (splitN m)),.string (T (splitV m))] 24)
      have bG:IntKind.i64.wrap ((k:Int)+1)=((k+1:Nat):Int):=by rw[IntKind.wrap_i64];omega
      go_wp2_with(first
       |(at_builtin;refine aAe aEb rfl (.tmp 86) (.tmp 88) rfl (Z+1) F k cF (cellsP (prsL (payP l R) k)) rfl o.out.fld.2.2 ⟨w16.heap.size,0,none⟩ 1 1 [.string (T (splitN m)),.string (T (splitV m))] rfl rfl (Blk.news ar.out) (by intro u hu;simp at hu;rcases hu with rfl|rfl<;>rfl) (by omega) (by omega) (by unfold maxLen;omega) ?_;intro F2 bo w18 aE L aa;have a1:=yH (LR.field o.out (by rw[aI.out];exact bc.out) (by rw[aI.out];exact aE) L aa);have bQ:=(show Blk w18 Z _ _ from(L.block Z o.out.lt (fun e=>by have:=(OwnE.ltB o.out.fld.2.2 Z e.symm).1;omega)).trans o.out.rc).cell (i:=19) rfl;have bH:=(show Blk w18 Z _ _ from(L.block Z o.out.lt (fun e=>by have:=(OwnE.ltB o.out.fld.2.2 Z e.symm).1;omega)).trans o.out.rc).frozen 19;clear aE L aa)
       |fail)
      go_roundw
      case rel=>exact⟨k+1,F2,bo,bj,bq,C++ [⟨E,o3,m3,c3⟩],rfl,rfl,by omega,a1,yH (by rw[yA,ad.out];rfl),yH (fun i hi=>by rcases Nat.lt_or_ge i k with h1|h1;(exact z.out i h1);have e:i=k:=by {omega};subst e;exact a2.out)⟩
      case measure=>simp[natOf];omega
     ·have bE:(splitE m !=0)=true:=by simpa using V
      have aO:icode h l n R fh k≠0:=by rw[HI.out];exact V
      have f:=N.out aO
      rw[HI.out]at f
      have X:=q.out (by rw[f];exact V)
      subst X
      subst f
      clear aO HI
      go_upto_region 18 with(first
       |(go_at_call 89;(refine aq.out.mono ?_);rintro e w9 ⟨rfl,H⟩;have B9:=yH (am.out.trans (H.mono am.out.size));have Z9:=yH ((H.block w.heap.size (yL M G.out.size)).trans Z8.out);have bk:=yH (show w.heap.size<w9.heap.size from yL M (Nat.le_trans G.out.size H.size));clear H)
       |fail)
      have a8:=yH ((Below.heap_alloc w9 (.cells #[.string (T (splitN m)),.string (T (splitV m))] 24) w.heap.size bk.out).trans Z9.out)
      have aX:=yH (B9.out.alloc B9.out.size (.cells #[.string (T (splitN m)),.string (T (splitV m))] 24))
      generalize w9.alloc (.cells #[.string (T (splitN m)),.string (T (splitV m))] 24)=w10 at*
      go_wp2_with(first
       |((with_reducible apply aAb 79);refine Yz.wpList_build_as rfl 64 _ rfl zR (by kernel_rfl) ?_)
       |((with_reducible apply aAa (.tmp 4) (.tmp 79));refine wpList_store_row rfl 64 (.tmp 4) (.tmp 79) rfl w.heap.size zR rfl rfl 64 zR a8.out (by kernel_rfl) rfl (aAo 0 0 0 (fun _=>0) none 0 0) ?_)
       |fail)
      refine bodyPost_ret (v:= .tuple #[.agg zR,.int .i64 (splitE m)]) (by exact aAq Tryz.results130 _ _ w.heap.size 64 _ (0,0) _ _ rfl rfl (setRow_heap _ w.heap.size _ _ _ (0,0) a8.out) Tryz.underlying64 rfl (by kernel_rfl)) rfl ?_
      first|exact⟨none,0,rfl,Prs.nil _ _,below_setRow aX.out (yR _) _⟩|exact⟨none,⟨0,rfl⟩,Prs.nil _ _,below_setRow aX.out (yR _) _⟩
    ·have d2:(y0 !=g2)=true:=by simpa using he
     have f:=N.out (by rw[ab.out he];decide)
     rw[ab.out he]at f
     have X:=q.out (by rw[f];decide)
     subst X
     subst f
     clear ab aw
     go_upto_region 15 with fail
     go_wp2_with(first
      |((with_reducible apply aAb 71);refine Yz.wpList_build_as rfl 64 _ rfl zR (by kernel_rfl) ?_)
      |((with_reducible apply aAa (.tmp 4) (.tmp 71));refine wpList_store_row rfl 64 (.tmp 4) (.tmp 71) rfl w.heap.size zR rfl rfl 64 zR Z8.out (by kernel_rfl) rfl (aAo 0 0 0 (fun _=>0) none 0 0) ?_)
      |fail)
     refine bodyPost_ret (v:= .tuple #[.agg zR,.int .i64 9]) (by exact aAq Tryz.results130 _ _ w.heap.size 64 _ (0,0) _ _ rfl rfl (setRow_heap _ w.heap.size _ _ _ (0,0) Z8.out) Tryz.underlying64 rfl (by kernel_rfl)) rfl ?_
     first|exact⟨none,0,rfl,Prs.nil _ _,below_setRow am.out (yR _) _⟩|exact⟨none,⟨0,rfl⟩,Prs.nil _ _,below_setRow am.out (yR _) _⟩
   ·have HI:=yH (aDd (fh:=fh) aJ.out hc)
    have f:=N.out (by rw[HI.out];exact hc)
    rw[HI.out]at f
    have X:=q.out (by rw[f];exact hc)
    subst X
    subst f
    clear HI N x q ai
    have d2:(hcode9 h l n I !=0)=true:=by simpa using hc
    generalize hH h l n I=hh at*
    generalize payT h l n I=pt at*
    go_upto_region 13 with(first
     |(go_at_call 162;(refine HH.out.mono ?_);rintro e w8 ⟨Y,A3,m3,c3,rfl,al,ay,ap⟩;have B8:=yH (BW.out.trans (Y.mono BW.out.size));have Z8:=yH ((Y.block w.heap.size M).trans Zr.out);clear Y al ap)
     |fail)
    go_wp2_with(first
     |((with_reducible apply aAb 61);refine Yz.wpList_build_as rfl 64 _ rfl zR (by kernel_rfl) ?_)
     |((with_reducible apply aAa (.tmp 4) (.tmp 61));refine wpList_store_row rfl 64 (.tmp 4) (.tmp 61) rfl w.heap.size zR rfl rfl 64 zR Z8.out (by kernel_rfl) rfl (aAo 0 0 0 (fun _=>0) none 0 0) ?_)
     |fail)
    refine bodyPost_ret (v:= .tuple #[.agg zR,.int .i64 (hcode9 h l n I)]) (by exact aAq Tryz.results130 _ _ w.heap.size 64 _ (0,0) _ _ rfl rfl (setRow_heap _ w.heap.size _ _ _ (0,0) Z8.out) Tryz.underlying64 rfl (by kernel_rfl)) rfl ?_
    first|exact⟨none,0,rfl,Prs.nil _ _,below_setRow B8.out (yR _) _⟩|exact⟨none,⟨0,rfl⟩,Prs.nil _ _,below_setRow B8.out (yR _) _⟩
  ·have bi:k=B:=by omega
   subst bi
   have d1:decide ((k:Int)<(k:Int))=false:=by simp
   have HX:=yH (show True∧Calls Tryz.prog 70 #[.slice PA k cP] wr.drew fun e w'=>e= .returned (.int .u64 ((xr (rowsL (payP l R) k):Nat):Int))∧wr.drew=w' from by
    obtain⟨Ax,Lx,Cx,bx,bb⟩:=LR.inRows (HL.out.below (yB wr.heap.size wr).drew) ad.out
    exact⟨trivial,aLv PA k cP Ax Lx Cx _ _ bx (by omega) bb⟩)
   have Sd:=yH (show wr.drew.cell? ⟨s5,19,none⟩=some (.int .u64 j)from(ent_cell Er.out.drew).2.2.2.1)
   have br:=yH fun(e:j≠((xr (rowsL (payP l R) k):Nat):Int))=>x.out.d rfl (by omega) z.out e
   have bt:=yH fun(e:j=((xr (rowsL (payP l R) k):Nat):Int))=>x.out.e rfl (by omega) z.out e
   generalize ((xr (rowsL (payP l R) k):Nat):Int)=xx at*
   go_upto_region 21 with fail
   clear aS
   refine wp_region_held_drew (S:=fun W:World=>W.cell? ⟨s5,19,none⟩=some (.int .u64 j)) (by kernel_rfl) (by exact Sd.out) (fun hHeld=>?_)
   refine tq 0 91 rfl (fun W hSw=>by have aH:=hSw;go_simp;try (with_reducible rfl)) ?_
   try simp only[Act.put,sA,sZ,sS]
   refine tq 1 92 rfl (fun W hSw=>by have aH:=hSw;go_simp;try (with_reducible rfl)) ?_
   try simp only[Act.put,sA,sZ,sS]
   refine tq 2 93 rfl (fun W hSw=>by have aH:=hSw;go_simp;try (with_reducible rfl)) ?_
   try simp only[Act.put,sA,sZ,sS]
   refine rd 3 rfl (fun K hK=>?_)
   go_simp
   ((refine(HX.out.2).mono ?_);rintro e w7 ⟨rfl,rfl⟩)
   try go_wp2_with fail
   refine hK.out _ _ (by exact Sd.out) (fun hHeld=>?_)
   clear hK K
   try simp only[Act.put,sA,sZ,sS]
   refine tq 4 95 rfl (fun W hSw=>by have aH:=hSw;go_simp;try (with_reducible rfl)) ?_
   try simp only[Act.put,sA,sZ,sS]
   refine wpAnyH_done (by kernel_rfl) ?_ _
   have aN:=yH (HL.out.below (yB wr.heap.size wr).drew)
   have Zd:=yH (show wr.drew.heap[w.heap.size]? =_ from Zr.out)
   have aF:=yH BW.out.drew
   by_cases he:j=xx
   ·have d2:(j !=xx)=false:=by simp[he]
    have f:=bt.out he
    have X:=ai.out f
    subst X
    subst f
    go_wp2_with(first
     |((with_reducible apply aAb 97);refine wpList_load_row rfl 64 (.tmp 8) rfl Z rfl 64 (recL t s g r (.slice F k cF)).toArray (0,0) _ aN.out.rc Tryz.underlying64 rfl (aAm _ _ _ _ _) ?_)
     |((with_reducible apply aAa (.tmp 4) (.tmp 97));refine wpList_store_row rfl 64 (.tmp 4) (.tmp 97) rfl w.heap.size (recL t s g r (.slice F k cF)).toArray rfl rfl 64 zR Zd.out (aAm _ _ _ _ _) rfl (aAo _ _ _ _ _ _ _) ?_)
     |fail)
    refine bodyPost_ret (v:= .tuple #[.agg (recL t s g r (.slice F k cF)).toArray,.int .i64 0]) (by exact aAq Tryz.results130 _ _ w.heap.size 64 _ (0,0) _ _ rfl rfl (setRow_heap _ w.heap.size _ _ _ (0,0) Zd.out) Tryz.underlying64 rfl (aAm _ _ _ _ _)) rfl ?_
    exact⟨F,⟨cF,rfl⟩,Prs.keptB (aN.out.fld.prs) (by simp) (fun b off e hb=>setRow_other _ w.heap.size b _ (by have h1:=(OwnE.ltB aN.out.fld.2.2 b (by rw[e];rfl)).1;have:=ac.out;omega)),below_setRow aF.out (yR _) _⟩
   ·have d2:(j !=xx)=true:=by simpa using he
    have f:=br.out he
    have X:=q.out (by rw[f];decide)
    subst X
    subst f
    go_upto_region 22 with fail
    go_wp2_with(first
     |((with_reducible apply aAb 96);refine Yz.wpList_build_as rfl 64 _ rfl zR (by kernel_rfl) ?_)
     |((with_reducible apply aAa (.tmp 4) (.tmp 96));refine wpList_store_row rfl 64 (.tmp 4) (.tmp 96) rfl w.heap.size zR rfl rfl 64 zR Zd.out (by kernel_rfl) rfl (aAo 0 0 0 (fun _=>0) none 0 0) ?_)
     |fail)
    refine bodyPost_ret (v:= .tuple #[.agg zR,.int .i64 10]) (by exact aAq Tryz.results130 _ _ w.heap.size 64 _ (0,0) _ _ rfl rfl (setRow_heap _ w.heap.size _ _ _ (0,0) Zd.out) Tryz.underlying64 rfl (by kernel_rfl)) rfl ?_
    first|exact⟨none,0,rfl,Prs.nil _ _,below_setRow aF.out (yR _) _⟩|exact⟨none,⟨0,rfl⟩,Prs.nil _ _,below_setRow aF.out (yR _) _⟩
end Vc
namespace Wc
open Ga Gb
open Ye Yh
open Rd (dcode)
open Rg (arcode)
open Ym (aBC)
attribute [local irreducible] HD.cells wpList Code.wp
end Wc
end Go.Proofs.YteaikbodkgjkdaaGreat
