/-
  Texts beneath the proof.
-/
import Derived.Test.YtlelnfokffflnaaGreatQl37
set_option linter.unusedVariables false
set_option linter.unusedSimpArgs false
set_option maxRecDepth 100000
set_option maxHeartbeats 16000000
open Go.ChangeShapes Go.WideShapes Go.ChangeAt Go.RowKit
namespace Go.Proofs.YtlelnfokffflnaaGreat
namespace Vc
open Bytes8 Blk8 Own8 OwnE OwnA Rows2 Ob Ga Gb Gi Ok7 Np Nr Sg Pr8 Fa Fsp Fe Dc Ya Hm Se Rc Rk Rm Rr Va Vb
open Yc Yp Yd Ye Yg Yh
open Rn (payP rcodeF rcode RC aLo aDd aCk aBG In2.older aE2 aE3 aEo LR.start aEp aAo ent_cell natOf)
open Ri (ecode9 ez)
open Rd (dcode dz)
theorem aLw (a:Option Addr)(n l:Nat)(A:Nat→Option Addr)(L C:Nat→Nat)(P:Nat→List Int)(w:World)(h:InRows w a n A L C P)(B:n≤1000000)(p: ∀r,r<n→L r≤800000):
 Calls Tryz.prog 81 #[.slice a n l] w fun e w'=>e= .returned (.int .u64 ((xr (rowsL P n):Nat):Int))∧w=w':=by
 have x:=yH h
 clear h
 go_enter Tryz.func81,Tryz.ntmps81
 go_wp2
 go_loopw [3,4] (fun s i wr=> ∃k:Nat,k≤n∧i= .int .i64 (k:Int)∧s= .int .u64 ((xr (rowsL P k):Nat):Int)∧wr=w) (fun _ i _=>n-natOf i)
 case atStart=>exact⟨0,Nat.zero_le _,rfl,rfl,rfl⟩
 case round=>
  obtain⟨k,F,rfl,rfl,rfl⟩:=hrel
  by_cases g:k<n
  ·obtain⟨b,z,rfl,E,D,j,m,d,f⟩:=x.out k g
   have o:=p k g
   have c:=yH (aEr (A k) (P k) (L k) (C k) wr j m (by omega))
   have t:=yH (aHY P k)
   have y:(0:Int)≤(k:Int):=by omega
   have u:(k:Int)<(n:Int):=by omega
   clear j m d f
   generalize P k=q at*
   go_wp2_with(first|(go_at_call 135;(with_reducible refine c.out.mono ?_);rintro e w2 ⟨rfl,rfl⟩)|fail)
   go_roundw
   case rel=>exact⟨k+1,by omega,by go_num,by rw[t.out],trivial⟩
   case measure=>simp[natOf];omega
  ·obtain rfl:k=n:=by omega
   go_wp2
   go_ret
   exact⟨rfl,rfl⟩
theorem aHM {h:HD}{l:List Int}{n a:Nat}(b:hcode9 h l n a=0):payT h l n a=bpay l a 1 6∧hH h l n a=bnum l a 1 6 0:=⟨if_pos b,if_pos b⟩
attribute [local irreducible] wpList Code.wp ofS bnum bpay bcode hcode9 icode splitE splitN splitV xr rowsL prsL lcode payT hH
theorem aNA {gv:Nat}{h:HD}{d:Int}{A:Option Addr}{n c:Nat}{l:List Int}(a:Nat)(w:World)(v:ViewR w gv h d A n c l):
 Calls Tryz.prog 106 #[.pointer (some ⟨gv,0,none⟩),.int .u64 (a:Int)] w (TellR (recP h l n a) (rcode h l n a) w):=by
 have b1:=yH ((Below.refl w.heap.size w).alloc (yR _) (.cells zR 70))
 have v1:=v.below b1.out
 have HV:=yH (aNw a _ v1)
 have Vw:=yH fun(W:World) (hW:Below w.heap.size w W)=>v.below hW
 have Z1:=yH (heap_alloc_new w (.cells zR 70))
 have s1:=yH (show w.heap.size<(w.alloc (.cells zR 70)).heap.size by simp)
 have br:l.length≤800000:=by have h1:=v.len;have h2:=v.big;omega
 unfold TellR
 have y:=yH (aLo h l n (ecode9 h l n a) (eN l a) (itA (bodyL l a)) (itH (bodyL l a)) (eNum l a 40))
 have q:=yH (show rcode h l n a≠0→recP h l n a=⟨0,0,0,fun _=>0,0,[]⟩from fun J=>if_neg J)
 have ac:=yH (show rcode h l n a=0→recP h l n a=⟨eNum l a 0,eNum l a 8,eNum l a 16,eK l a,eN l a,prsL (payP l (itA (bodyL l a))) (eN l a)⟩from fun J=>if_pos J)
 have aO:rcode h l n a=rcodeF h l n (ecode9 h l n a) (eN l a) (itA (bodyL l a)) (itH (bodyL l a)) (eNum l a 40):=rfl
 rw[aO]at q ac⊢
 clear aO
 generalize rcodeF h l n (ecode9 h l n a) (eN l a) (itA (bodyL l a)) (itH (bodyL l a)) (eNum l a 40)=rc at*
 generalize recP h l n a=rp at*
 unfold TellE at HV
 by_cases J:ecode9 h l n a≠0
 ·have f:=y.out.a J
  rw[←f]at J
  have V:=q.out J
  rw[←f]at HV
  subst V
  clear v v1 y q ac f
  generalize eN9 h l n a 0=z at*
  generalize eN9 h l n a 8=s at*
  generalize eN9 h l n a 16=g at*
  generalize eN9 h l n a 40=j at*
  generalize eK9 h l n a=r at*
  generalize eC9 h l n a=B at*
  have d1:(rc !=0)=true:=by simpa using J
  go_enter Tryz.func106,Tryz.ntmps106
  go_upto_region 3 with(first
   |(go_at_call 98;(refine HV.out.mono ?_);rintro e w2 ⟨x,A2,c2,rfl,ao,aI⟩;have B2:=yH (b1.out.trans (x.mono b1.out.size));have Z2:=yH ((x.block _ s1.out).trans Z1.out);have ah:=yH (show w.heap.size<w2.heap.size from yL s1.out x.size);clear x ao aI)
   |((with_reducible apply aAa (.tmp 6) (.tmp 20));refine wpList_store_row rfl 179 (.tmp 6) (.tmp 20) rfl w2.heap.size (entL z s g r j A2 B c2).toArray rfl rfl 179 ez (heap_alloc_new w2 _) (by kernel_rfl) rfl (by first|exact aBB _ _ _ _ _ _ _ _|exact aCt) ?_)
   |fail)
  have C:=yH (show Below w2.heap.size w2 ((w2.alloc (.cells ez 179)).setRow w2.heap.size (entL z s g r j A2 B c2).toArray)from below_setRow ((Below.refl _ _).alloc (yR _) _) (yR _) _)
  generalize (w2.alloc (.cells ez 179)).setRow w2.heap.size (entL z s g r j A2 B c2).toArray=w3 at*
  have Z3:=yH ((C.out.block _ ah.out).trans Z2.out)
  have B3:=yH (B2.out.trans (C.out.mono B2.out.size))
  go_wp2_with(first
   |((with_reducible apply aAb 24);refine Yz.wpList_build_as rfl 70 _ rfl zR (by kernel_rfl) ?_)
   |((with_reducible apply aAa (.tmp 4) (.tmp 24));refine wpList_store_row rfl 70 (.tmp 4) (.tmp 24) rfl w.heap.size zR rfl rfl 70 zR Z3.out (by kernel_rfl) rfl (aAo 0 0 0 (fun _=>0) none 0 0) ?_)
   |fail)
  refine bodyPost_ret (v:= .tuple #[.agg zR,.int .i64 rc]) (by exact aAq Tryz.results106 _ _ w.heap.size 70 _ (0,0) _ _ rfl rfl (setRow_heap _ w.heap.size _ _ _ (0,0) Z3.out) Tryz.underlying70 rfl (by kernel_rfl)) rfl ?_
  first|exact⟨none,0,rfl,Prs.nil _ _,below_setRow B3.out (yR _) _⟩|exact⟨none,⟨0,rfl⟩,Prs.nil _ _,below_setRow B3.out (yR _) _⟩
 have J:ecode9 h l n a=0:=by omega
 have hr:rng h n a:=by
  by_cases hr:rng h n a
  ·exact hr
  ·rw[show ecode9 h l n a=2 from if_neg hr]at J;cases J
 have q0: ∀i,eN9 h l n a i=eNum l a i:=fun i=>if_pos hr
 have q1:eK9 h l n a=eK l a:=if_pos hr
 have q2:eC9 h l n a=eN l a:=if_pos hr
 rw[J,q0 0,q0 8,q0 16,q0 40,q1,q2]at HV
 rw[J]at y
 clear q0 q1 q2 hr J v v1
 generalize eNum l a 0=z at*
 generalize eNum l a 8=s at*
 generalize eNum l a 16=g at*
 generalize eNum l a 40=j at*
 generalize eK l a=r at*
 generalize eN l a=B at*
 generalize itA (bodyL l a)=R at*
 generalize itH (bodyL l a)=fh at*
 go_enter Tryz.func106,Tryz.ntmps106
 go_upto_region 4 with(first
  |(go_at_call 98;(refine HV.out.mono ?_);rintro e w2 ⟨x,A2,c2,rfl,ao,aI⟩;have B2:=yH (b1.out.trans (x.mono b1.out.size));have aQ:=yH ao;have Z2:=yH ((x.block _ s1.out).trans Z1.out);have ah:=yH (show w.heap.size<w2.heap.size from yL s1.out x.size);clear x ao aI)
  |((with_reducible apply aAa (.tmp 6) (.tmp 20));refine wpList_store_row rfl 179 (.tmp 6) (.tmp 20) rfl w2.heap.size (entL z s g r j A2 B c2).toArray rfl rfl 179 ez (heap_alloc_new w2 _) (by kernel_rfl) rfl (by first|exact aBB _ _ _ _ _ _ _ _|exact aCt) ?_)
  |fail)
 have R3:=yH (show Blk ((w2.alloc (.cells ez 179)).setRow w2.heap.size (entL z s g r j A2 B c2).toArray) w2.heap.size (entL z s g r j A2 B c2) 179 from setRow_heap _ _ _ _ _ (0,0) (heap_alloc_new w2 _))
 have C:=yH (show Below w2.heap.size w2 ((w2.alloc (.cells ez 179)).setRow w2.heap.size (entL z s g r j A2 B c2).toArray)from below_setRow ((Below.refl _ _).alloc (yR _) _) (yR _) _)
 generalize (w2.alloc (.cells ez 179)).setRow w2.heap.size (entL z s g r j A2 B c2).toArray=w3 at*
 have B3:=yH (B2.out.trans (C.out.mono B2.out.size))
 have bu:=yH (In2.older aQ.out C.out)
 have Z3:=yH ((C.out.block _ ah.out).trans Z2.out)
 have bC:w.heap.size<w3.heap.size:=yL ah.out C.out.size
 have bN:w2.heap.size<w3.heap.size:=R3.out.lt
 generalize w2.heap.size=s5 at*
 obtain⟨c0,c1,aT,a3,bw⟩:=ent_cell R3.out
 clear HV B2 aQ Z2 ah C Z1 s1
 by_cases bz:16<B
 ·have f:=y.out.b rfl bz
  subst f
  have V:=q.out (by decide)
  subst V
  have dd:decide ((B:Int)>16)=true:=by simp;omega
  clear c0 c1 aT a3 y q ac
  go_upto_region 5 with fail
  go_wp2_with(first
   |((with_reducible apply aAb 30);refine Yz.wpList_build_as rfl 70 _ rfl zR (by kernel_rfl) ?_)
   |((with_reducible apply aAa (.tmp 4) (.tmp 30));refine wpList_store_row rfl 70 (.tmp 4) (.tmp 30) rfl w.heap.size zR rfl rfl 70 zR Z3.out (by kernel_rfl) rfl (aAo 0 0 0 (fun _=>0) none 0 0) ?_)
   |fail)
  refine bodyPost_ret (v:= .tuple #[.agg zR,.int .i64 21]) (by exact aAq Tryz.results106 _ _ w.heap.size 70 _ (0,0) _ _ rfl rfl (setRow_heap _ w.heap.size _ _ _ (0,0) Z3.out) Tryz.underlying70 rfl (by kernel_rfl)) rfl ?_
  first|exact⟨none,0,rfl,Prs.nil _ _,below_setRow B3.out (yR _) _⟩|exact⟨none,⟨0,rfl⟩,Prs.nil _ _,below_setRow B3.out (yR _) _⟩
 have dd:decide ((B:Int)>16)=false:=by simp;omega
 have a4:=yH (aEp R3.out)
 go_upto_region 7 with(first
  |((with_reducible apply aAb 38);refine wpList_load_mid rfl 37 (.tmp 37) rfl s5 3 rfl (idJ r) _ a4.out Tryz.underlying37 rfl (aBl _) ?_)
  |((with_reducible apply aAb 39);refine Yz.wpList_build_as rfl 70 _ rfl (recL z s g r (.slice none 0 0)).toArray (by kernel_rfl) ?_)
  |((with_reducible apply aAa (.tmp 8) (.tmp 39));refine wpList_store_row rfl 70 (.tmp 8) (.tmp 39) rfl w3.heap.size (recL z s g r (.slice none 0 0)).toArray rfl rfl 70 zR (heap_alloc_new w3 _) (aAm _ _ _ _ _) rfl (aAo _ _ _ _ _ _ _) ?_)
  |fail)
 have R5:=yH (show Blk ((w3.alloc (.cells zR 70)).setRow w3.heap.size (recL z s g r (.slice none 0 0)).toArray) w3.heap.size (recL z s g r (.slice none 0 0)) 70 from setRow_heap _ _ _ _ _ (0,0) (heap_alloc_new w3 _))
 have aV:=yH (show Below w3.heap.size w3 ((w3.alloc (.cells zR 70)).setRow w3.heap.size (recL z s g r (.slice none 0 0)).toArray)from below_setRow ((Below.refl _ _).alloc (yR _) _) (yR _) _)
 generalize (w3.alloc (.cells zR 70)).setRow w3.heap.size (recL z s g r (.slice none 0 0)).toArray=w5 at*
 generalize a9:w3.heap.size=Z at*
 have L0:=yH (LR.start (P:=payP l R) aV.out R5.out)
 have aj:=yH a9.symm
 clear c0 c1 aT a3 bw a4 R5 aV a9
 go_upto_region 9 with fail
 go_loopw [9,10] (fun p i wr=> ∃(k:Nat) (F:Option Addr) (cF:Nat) (PA:Option Addr) (cP:Nat) (D:List Row4),p= .slice PA k cP∧i= .int .i64 (k:Int)∧k≤B∧Hid (LR w3 wr Z z s g r (payP l R) F cF PA cP D k k)∧Hid (D.length=k)∧Hid (∀i,i<k→icode h l n R fh i=0)) (fun _ i _=>B-natOf i)
 case atStart=>exact⟨0,none,0,none,0,[],rfl,rfl,Nat.zero_le _,L0,yH rfl,yH (fun i hi=>absurd hi (Nat.not_lt_zero i))⟩
 case round=>
  obtain⟨k,F,cF,PA,cP,D,rfl,rfl,hk,HL,ag,t⟩:=hrel
  have BW:=yH (show Below w.heap.size w wr from B3.out.trans (HL.out.old.mono (by omega)))
  have ab:=yH (show Below w3.heap.size w3 wr from aj.out▸HL.out.old)
  have Er:=yH (R3.out.below ab.out (by have:=aj.out;omega))
  have Zr:=yH ((ab.out.block w.heap.size (by have:=aj.out;omega)).trans Z3.out)
  have M:w.heap.size<wr.heap.size:=yL (by have:=aj.out;omega) ab.out.size
  have ba:=(ent_cell Er.out).2.2.2.2
  by_cases aY:k<B
  ·have d1:decide ((k:Int)<(B:Int))=true:=by simp;omega
   have N:=yH fun(e:icode h l n R fh k≠0)=>y.out.c rfl (by omega) k aY t.out e
   obtain⟨bI,oI,rfl,bA,a2,av,bk,bM⟩:=(In2.older bu.out ab.out) k aY
   obtain⟨H,az⟩: ∃H:Nat,R k=(H:Int):=⟨(R k).toNat,by omega⟩
   rw[az]at a2
   have aG:=yH az
   have aJ:=yH (show payP l R k=bpay l H 1 6 by unfold payP;rw[az,Int.toNat_natCast])
   clear az bk
   generalize aU:fh k=g2 at*
   have bB:=yH aU
   clear aU
   have bg:=yH fun(W:World) (hW:Below wr.heap.size wr W)=>show W.cell? ⟨bI,oI+k*2+1,none⟩=some (.int .u64 g2)from(hW.cell (p:=⟨bI,oI+k*2+1,none⟩) bA).trans av
   have HH:=yH (aNy H wr (Vw.out wr BW.out))
   unfold TellH at HH
   have bQ:(0:Int)≤(k:Int):=by omega
   have bH:(k:Int)<(B:Int):=by omega
   clear ab av
   by_cases hc:hcode9 h l n H=0
   ·obtain⟨t1,t2⟩:=aHM hc
    rw[hc,t1,t2]at HH
    clear t1 t2
    have bm:=yH (aIK (aE1 hc))
    have ai:=yH fun(e:bnum l H 1 6 0≠fh k)=>aCk (fh:=fh) aG.out hc e
    have ar:=yH fun(e:bnum l H 1 6 0=fh k)=>aBG (fh:=fh) aG.out hc e
    have aM:=yH (show(bpay l H 1 6).length≤800000 from Nat.le_trans (aFH l H 1 6) br)
    rw[bB.out]at ai ar
    generalize bnum l H 1 6 0=y0 at*
    generalize bpay l H 1 6=m at*
    go_upto_region 14 with(first
     |(go_at_call 154;(refine HH.out.mono ?_);rintro e w8 ⟨Y,A3,m3,c3,rfl,ay,an,aw⟩;have E:=yH Y;have al:=yH ay;have ap:=yH aw;clear Y ay aw)
     |fail)
    obtain⟨G,o3,rfl,a6,_⟩:=al.out.2 0 (by rw[←an]at*;exact bm.out)
    have ax:=yH (BW.out.trans (E.out.mono BW.out.size))
    have aA:=yH (HL.out.below E.out)
    have E8:=yH (Er.out.below E.out Er.out.lt)
    have Z8:=yH ((E.out.block w.heap.size M).trans Zr.out)
    have bp:=(ent_cell E8.out).2.2.2.2
    have av:=bg.out w8 E.out
    have aR:=yH (show Z<G∧ownB F≠some G∧ownB PA≠some G from by
     have h1:=ap.out.2.2.2 G o3 rfl
     have h2:=HL.out.lt
     refine⟨by omega,fun e=>?_,fun e=>?_⟩
     ·have:=(OwnE.ltB HL.out.fld.2.2 G e).2;omega
     ·have:=(OwnE.ltB HL.out.own G e).2;omega)
    have au:=yH (show m3≤c3∧c3≤maxLen from⟨ap.out.2.1,ap.out.2.2.1⟩)
    clear HH a2 ba ap HL BW
    by_cases he:y0=g2
    ·have d2:(y0 !=g2)=false:=by simp[he]
     have HI:=yH (ar.out he)
     clear ai ar
     go_upto_region 16 with fail
     have aq:=yH (aJe (some ⟨G,o3,none⟩) m m3 c3 w8 al.out an (by have:=aM.out;omega) au.out.1 au.out.2)
     unfold Splitted at aq
     clear d1 d2 av bp
     by_cases X:splitE m=0
     ·have a5:icode h l n R fh k=0:=HI.out.trans X
      rw[X]at aq
      have aW:=yH a5
      have bl:=yH (show okP (splitN m,splitV m)from aEo al.out.1 (by have:=aM.out;omega))
      clear HI X a5
      go_upto_region 17 with(first
       |(go_at_call 96;(refine aq.out.mono ?_);rintro e w9 ⟨rfl,I⟩;have aN:=yH I;clear I)
       |fail)
      have bP:=yR w9.heap.size
      have Rp:=yH (show Blk (w9.alloc (.cells #[.string (T (splitN m)),.string (T (splitV m))] 82)) w9.heap.size [.string (T (splitN m)),.string (T (splitV m))] 82 from Blk.new w9 _ _)
      have aF:=yH (show Below w8.heap.size w8 (w9.alloc (.cells #[.string (T (splitN m)),.string (T (splitV m))] 82))from aN.out.alloc aN.out.size _)
      have bq:w8.heap.size≤w9.heap.size:=aN.out.size
      generalize w9.alloc (.cells #[.string (T (splitN m)),.string (T (splitV m))] 82)=wA at*
      generalize w9.heap.size=aa at*
      have bn:=yH (aA.out.below aF.out)
      have bf:=yH (al.out.below aF.out (yR _))
      have bx:=yH (show ownB F≠some aa∧ownB PA≠some aa from⟨fun e=>by have:=(OwnE.ltB aA.out.fld.2.2 _ e).2;omega,fun e=>by have:=(OwnE.ltB aA.out.own _ e).2;omega⟩)
      have bD:Z<aa:=yL aA.out.lt bq
      go_upto_region 19 with fail
      have aP:=yH (bn.out.below ((Below.refl _ _).alloc (yR _) (.cells #[.slice (some ⟨G,o3,none⟩) m3 c3] 24)))
      have bs:=yH (bf.out.below ((Below.refl _ _).alloc (yR _) (.cells #[.slice (some ⟨G,o3,none⟩) m3 c3] 24)) (yR _))
      have a8:=yH (Rp.out.alloc (.cells #[.slice (some ⟨G,o3,none⟩) m3 c3] 24))
      have aS:wA.heap.size<(wA.alloc (.cells #[.slice (some ⟨G,o3,none⟩) m3 c3] 24)).heap.size:=by simp
      have a7:G<wA.heap.size:=yL a6 aF.out.size
      go_upto_region 20 with(first
       |(at_builtin;refine aAe Yb.aOo rfl (.tmp 81) (.tmp 83) rfl (Z+1) PA k cP (D.map Row4.v) rfl aP.out.own ⟨wA.heap.size,0,none⟩ 1 1 [.slice (some ⟨G,o3,none⟩) m3 c3] rfl rfl (Blk.news (Blk.new wA _ _)) (by intro u hu;simp at hu;rw[hu];rfl) (by omega) (by omega) (by unfold maxLen;omega) ?_;intro bh bd w16 aB ae af;have aE:=yH (LR.payload aP.out ⟨G,o3,m3,c3⟩ ag.out (by rw[aJ.out];exact⟨bs.out,an,au.out.1,au.out.2,show m3≤800000 from by have:=aM.out;omega⟩) ⟨aR.out.1,Nat.lt_trans a7 aS,aR.out.2⟩ aB ae af);have aD:=yH (show Blk w16 aa _ _ from(ae.block aa a8.out.lt (fun e=>bx.out.2 e.symm)).trans a8.out);clear aB ae af)
       |fail)
      have bL:=aE.out.rc.cell (i:=19) rfl
      have bO:=aD.out.cell (i:=0) rfl
      have bK:=aD.out.cell (i:=1) rfl
      have o:=yH (aE.out.below ((Below.refl _ _).alloc (yR _) (.cells #[.string (T (splitN m)),.string (T (splitV m))] 82)))
      have am:=yH (Blk.new w16 [.string (T (splitN m)),.string (T (splitV m))] 82)
      have bJ:IntKind.i64.wrap ((k:Int)+1)=((k+1:Nat):Int):=by rw[IntKind.wrap_i64];omega
      go_wp2_with(first
       |(at_builtin;refine aAe aEb rfl (.tmp 86) (.tmp 88) rfl (Z+1) F k cF (cellsP (prsL (payP l R) k)) rfl o.out.fld.2.2 ⟨w16.heap.size,0,none⟩ 1 1 [.string (T (splitN m)),.string (T (splitV m))] rfl rfl (Blk.news am.out) (by intro u hu;simp at hu;rcases hu with rfl|rfl<;>rfl) (by omega) (by omega) (by unfold maxLen;omega) ?_;intro F2 bv w18 aC L ad;have aZ:=yH (LR.field o.out (by rw[aJ.out];exact bl.out) (by rw[aJ.out];exact aC) L ad);have bG:=(show Blk w18 Z _ _ from(L.block Z o.out.lt (fun e=>by have:=(OwnE.ltB o.out.fld.2.2 Z e.symm).1;omega)).trans o.out.rc).cell (i:=19) rfl;have bF:=(show Blk w18 Z _ _ from(L.block Z o.out.lt (fun e=>by have:=(OwnE.ltB o.out.fld.2.2 Z e.symm).1;omega)).trans o.out.rc).frozen 19;clear aC L ad)
       |fail)
      go_roundw
      case rel=>exact⟨k+1,F2,bv,bh,bd,D++ [⟨G,o3,m3,c3⟩],rfl,rfl,by omega,aZ,yH (by rw[List.length_append,ag.out];rfl),yH (fun i hi=>by rcases Nat.lt_or_ge i k with h1|h1;(exact t.out i h1);have e:i=k:=by {omega};subst e;exact aW.out)⟩
      case measure=>simp[natOf];omega
     ·have bE:(splitE m !=0)=true:=by simpa using X
      have a1:icode h l n R fh k≠0:=by rw[HI.out];exact X
      have f:=N.out a1
      rw[HI.out]at f
      have V:=q.out (by rw[f];exact X)
      subst V
      subst f
      clear a1 HI
      go_upto_region 18 with(first
       |(go_at_call 96;(refine aq.out.mono ?_);rintro e w9 ⟨rfl,I⟩;have B9:=yH (ax.out.trans (I.mono ax.out.size));have Z9:=yH ((I.block w.heap.size (yL M E.out.size)).trans Z8.out);have bc:=yH (show w.heap.size<w9.heap.size from yL M (Nat.le_trans E.out.size I.size));clear I)
       |fail)
      have aX:=yH ((Below.heap_alloc w9 (.cells #[.string (T (splitN m)),.string (T (splitV m))] 82) w.heap.size bc.out).trans Z9.out)
      have a0:=yH (B9.out.alloc B9.out.size (.cells #[.string (T (splitN m)),.string (T (splitV m))] 82))
      generalize w9.alloc (.cells #[.string (T (splitN m)),.string (T (splitV m))] 82)=w10 at*
      go_wp2_with(first
       |((with_reducible apply aAb 79);refine Yz.wpList_build_as rfl 70 _ rfl zR (by kernel_rfl) ?_)
       |((with_reducible apply aAa (.tmp 4) (.tmp 79));refine wpList_store_row rfl 70 (.tmp 4) (.tmp 79) rfl w.heap.size zR rfl rfl 70 zR aX.out (by kernel_rfl) rfl (aAo 0 0 0 (fun _=>0) none 0 0) ?_)
       |fail)
      refine bodyPost_ret (v:= .tuple #[.agg zR,.int .i64 (splitE m)]) (by exact aAq Tryz.results106 _ _ w.heap.size 70 _ (0,0) _ _ rfl rfl (setRow_heap _ w.heap.size _ _ _ (0,0) aX.out) Tryz.underlying70 rfl (by kernel_rfl)) rfl ?_
      first|exact⟨none,0,rfl,Prs.nil _ _,below_setRow a0.out (yR _) _⟩|exact⟨none,⟨0,rfl⟩,Prs.nil _ _,below_setRow a0.out (yR _) _⟩
    ·have d2:(y0 !=g2)=true:=by simpa using he
     have f:=N.out (by rw[ai.out he];decide)
     rw[ai.out he]at f
     have V:=q.out (by rw[f];decide)
     subst V
     subst f
     clear ai ar
     go_upto_region 15 with fail
     go_wp2_with(first
      |((with_reducible apply aAb 71);refine Yz.wpList_build_as rfl 70 _ rfl zR (by kernel_rfl) ?_)
      |((with_reducible apply aAa (.tmp 4) (.tmp 71));refine wpList_store_row rfl 70 (.tmp 4) (.tmp 71) rfl w.heap.size zR rfl rfl 70 zR Z8.out (by kernel_rfl) rfl (aAo 0 0 0 (fun _=>0) none 0 0) ?_)
      |fail)
     refine bodyPost_ret (v:= .tuple #[.agg zR,.int .i64 9]) (by exact aAq Tryz.results106 _ _ w.heap.size 70 _ (0,0) _ _ rfl rfl (setRow_heap _ w.heap.size _ _ _ (0,0) Z8.out) Tryz.underlying70 rfl (by kernel_rfl)) rfl ?_
     first|exact⟨none,0,rfl,Prs.nil _ _,below_setRow ax.out (yR _) _⟩|exact⟨none,⟨0,rfl⟩,Prs.nil _ _,below_setRow ax.out (yR _) _⟩
   ·have HI:=yH (aDd (fh:=fh) aG.out hc)
    have f:=N.out (by rw[HI.out];exact hc)
    rw[HI.out]at f
    have V:=q.out (by rw[f];exact hc)
    subst V
    subst f
    clear HI N y q ac
    have d2:(hcode9 h l n H !=0)=true:=by simpa using hc
    generalize hH h l n H=hh at*
    generalize payT h l n H=pt at*
    go_upto_region 13 with(first
     |(go_at_call 154;(refine HH.out.mono ?_);rintro e w8 ⟨Y,A3,m3,c3,rfl,ay,an,aw⟩;have B8:=yH (BW.out.trans (Y.mono BW.out.size));have Z8:=yH ((Y.block w.heap.size M).trans Zr.out);clear Y ay aw)
     |fail)
    go_wp2_with(first
     |((with_reducible apply aAb 61);refine Yz.wpList_build_as rfl 70 _ rfl zR (by kernel_rfl) ?_)
     |((with_reducible apply aAa (.tmp 4) (.tmp 61));refine wpList_store_row rfl 70 (.tmp 4) (.tmp 61) rfl w.heap.size zR rfl rfl 70 zR Z8.out (by kernel_rfl) rfl (aAo 0 0 0 (fun _=>0) none 0 0) ?_)
     |fail)
    refine bodyPost_ret (v:= .tuple #[.agg zR,.int .i64 (hcode9 h l n H)]) (by exact aAq Tryz.results106 _ _ w.heap.size 70 _ (0,0) _ _ rfl rfl (setRow_heap _ w.heap.size _ _ _ (0,0) Z8.out) Tryz.underlying70 rfl (by kernel_rfl)) rfl ?_
    first|exact⟨none,0,rfl,Prs.nil _ _,below_setRow B8.out (yR _) _⟩|exact⟨none,⟨0,rfl⟩,Prs.nil _ _,below_setRow B8.out (yR _) _⟩
  ·have bo:k=B:=by omega
   subst bo
   have d1:decide ((k:Int)<(k:Int))=false:=by simp
   have HX:=yH (show True∧Calls Tryz.prog 81 #[.slice PA k cP] wr.drew fun e w'=>e= .returned (.int .u64 ((xr (rowsL (payP l R) k):Nat):Int))∧wr.drew=w' from by
    obtain⟨Ax,Lx,Cx,bi,bb⟩:=LR.inRows (HL.out.below (Below.refl wr.heap.size wr).drew) ag.out
    exact⟨trivial,aLw PA k cP Ax Lx Cx _ _ bi (by omega) bb⟩)
   have Sd:=yH (show wr.drew.cell? ⟨s5,19,none⟩=some (.int .u64 j)from(ent_cell Er.out.drew).2.2.2.1)
   have bt:=yH fun(e:j≠((xr (rowsL (payP l R) k):Nat):Int))=>y.out.d rfl (by omega) t.out e
   have bj:=yH fun(e:j=((xr (rowsL (payP l R) k):Nat):Int))=>y.out.e rfl (by omega) t.out e
   generalize ((xr (rowsL (payP l R) k):Nat):Int)=xx at*
   go_upto_region 21 with fail
   clear ba
   refine wp_region_held_drew (S:=fun W:World=>W.cell? ⟨s5,19,none⟩=some (.int .u64 j)) (by kernel_rfl) (by exact Sd.out) (fun hHeld=>?_)
   refine tq 0 91 rfl (fun W hSw=>by have aK:=hSw;go_simp;try (with_reducible rfl)) ?_
   try simp only[Act.put,sA,sZ,sS]
   refine tq 1 92 rfl (fun W hSw=>by have aK:=hSw;go_simp;try (with_reducible rfl)) ?_
   try simp only[Act.put,sA,sZ,sS]
   refine tq 2 93 rfl (fun W hSw=>by have aK:=hSw;go_simp;try (with_reducible rfl)) ?_
   try simp only[Act.put,sA,sZ,sS]
   refine rd 3 rfl (fun K hK=>?_)
   go_simp
   ((refine(HX.out.2).mono ?_);rintro e w7 ⟨rfl,rfl⟩)
   try go_wp2_with fail
   refine hK.out _ _ (by exact Sd.out) (fun hHeld=>?_)
   clear hK K
   try simp only[Act.put,sA,sZ,sS]
   refine tq 4 95 rfl (fun W hSw=>by have aK:=hSw;go_simp;try (with_reducible rfl)) ?_
   try simp only[Act.put,sA,sZ,sS]
   refine wpAnyH_done (by kernel_rfl) ?_ _
   have aH:=yH (HL.out.below (Below.refl wr.heap.size wr).drew)
   have Zd:=yH (show wr.drew.heap[w.heap.size]? =_ from Zr.out)
   have aL:=yH BW.out.drew
   by_cases he:j=xx
   ·have d2:(j !=xx)=false:=by simp[he]
    have f:=bj.out he
    have V:=ac.out f
    subst V
    subst f
    go_wp2_with(first
     |((with_reducible apply aAb 97);refine wpList_load_row rfl 70 (.tmp 8) rfl Z rfl 70 (recL z s g r (.slice F k cF)).toArray (0,0) _ aH.out.rc Tryz.underlying70 rfl (aAm _ _ _ _ _) ?_)
     |((with_reducible apply aAa (.tmp 4) (.tmp 97));refine wpList_store_row rfl 70 (.tmp 4) (.tmp 97) rfl w.heap.size (recL z s g r (.slice F k cF)).toArray rfl rfl 70 zR Zd.out (aAm _ _ _ _ _) rfl (aAo _ _ _ _ _ _ _) ?_)
     |fail)
    refine bodyPost_ret (v:= .tuple #[.agg (recL z s g r (.slice F k cF)).toArray,.int .i64 0]) (by exact aAq Tryz.results106 _ _ w.heap.size 70 _ (0,0) _ _ rfl rfl (setRow_heap _ w.heap.size _ _ _ (0,0) Zd.out) Tryz.underlying70 rfl (aAm _ _ _ _ _)) rfl ?_
    exact⟨F,⟨cF,rfl⟩,Prs.keptB (aH.out.fld.prs) (by simp) (fun b off e hb=>setRow_other _ w.heap.size b _ (by have h1:=(OwnE.ltB aH.out.fld.2.2 b (by rw[e];rfl)).1;have:=aj.out;omega)),below_setRow aL.out (yR _) _⟩
   ·have d2:(j !=xx)=true:=by simpa using he
    have f:=bt.out he
    have V:=q.out (by rw[f];decide)
    subst V
    subst f
    go_upto_region 22 with fail
    go_wp2_with(first
     |((with_reducible apply aAb 96);refine Yz.wpList_build_as rfl 70 _ rfl zR (by kernel_rfl) ?_)
     |((with_reducible apply aAa (.tmp 4) (.tmp 96));refine wpList_store_row rfl 70 (.tmp 4) (.tmp 96) rfl w.heap.size zR rfl rfl 70 zR Zd.out (by kernel_rfl) rfl (aAo 0 0 0 (fun _=>0) none 0 0) ?_)
     |fail)
    refine bodyPost_ret (v:= .tuple #[.agg zR,.int .i64 10]) (by exact aAq Tryz.results106 _ _ w.heap.size 70 _ (0,0) _ _ rfl rfl (setRow_heap _ w.heap.size _ _ _ (0,0) Zd.out) Tryz.underlying70 rfl (by kernel_rfl)) rfl ?_
    first|exact⟨none,0,rfl,Prs.nil _ _,below_setRow aL.out (yR _) _⟩|exact⟨none,⟨0,rfl⟩,Prs.nil _ _,below_setRow aL.out (yR _) _⟩
end Vc
namespace Wc
open Ga Gb
open Ye Yh
open Rd (dcode)
open Rg (arcode)
open Ym (aBC)
attribute [local irreducible] HD.cells wpList Code.wp
end Wc
end Go.Proofs.YtlelnfokffflnaaGreat
