/-
  Texts beneath.
-/
import Derived.Test.YteaikbodkgjkdaaGreatQl33
set_option linter.unusedVariables false
set_option linter.unusedSimpArgs false
set_option maxRecDepth 100000
set_option maxHeartbeats 16000000
open Go.ChangeShapes Go.WideShapes Go.ChangeAt Go.RowKit
namespace Go.Proofs.YteaikbodkgjkdaaGreat
namespace Rn
open Bytes8 Blk8 Own8 OwnE OwnA Rows2 Ob Ga Gb Ok7 Np Nr Sg Pr8 Fa Fsp Dc Ya Rc Rk Rm
open Kf Yc Yp Yd Ye Yg Yh Ri
open Rd (dcode dz)
open Re (ReadD)
abbrev payP (l:List Int)(f:Nat→Int)(i:Nat):List Int:=bpay l (f i).toNat 1 6
def rcodeF (h:HD)(l:List Int)(n:Nat)(ec:Int)(mm:Nat)(fa fh:Nat→Int)(x40:Int):Int:=
 if ec≠0 then ec else if 16<mm then 21 else if lcode (icode h l n fa fh) mm≠0 then lcode (icode h l n fa fh) mm else if x40=((xr (rowsL (payP l fa) mm):Nat):Int)then 0 else 10
def rcode (h:HD)(l:List Int)(n a:Nat):Int:=rcodeF h l n (ecode9 h l n a) (eN l a) (itA (bodyL l a)) (itH (bodyL l a)) (eNum l a 40)
structure RC (rc:Int)(h:HD)(l:List Int)(n:Nat)(ec:Int)(mm:Nat)(fa fh:Nat→Int)(x40:Int):Prop where
 a:ec≠0→rc=ec
 b:ec=0→16<mm→rc=21
 c:ec=0→mm≤16→ ∀k,k<mm→(∀i,i<k→icode h l n fa fh i=0)→icode h l n fa fh k≠0→rc=icode h l n fa fh k
 d:ec=0→mm≤16→(∀i,i<mm→icode h l n fa fh i=0)→x40≠((xr (rowsL (payP l fa) mm):Nat):Int)→rc=10
 e:ec=0→mm≤16→(∀i,i<mm→icode h l n fa fh i=0)→x40=((xr (rowsL (payP l fa) mm):Nat):Int)→rc=0
theorem aLn (h:HD)(l:List Int)(n:Nat)(c:Int)(d:Nat)(b fh:Nat→Int)(a:Int):RC (rcodeF h l n c d b fh a) h l n c d b fh a:=by
 refine⟨fun h1=>?_,fun h1 h2=>?_,fun h1 h2 k hk h3 h4=>?_,fun h1 h2 h3 h4=>?_,fun h1 h2 h3 h4=>?_⟩<;>unfold rcodeF
 ·rw[if_pos h1]
 ·rw[if_neg (by omega),if_pos h2]
 ·rw[if_neg (by omega),if_neg (by omega),aEn h3 h4 hk,if_pos h4]
 ·rw[if_neg (by omega),if_neg (by omega),aB5 h3,if_neg (by decide),if_neg h4]
 ·rw[if_neg (by omega),if_neg (by omega),aB5 h3,if_neg (by decide),if_pos h4]
theorem aDd {h:HD}{l:List Int}{n:Nat}{b fh:Nat→Int}{k a:Nat}(e:b k=(a:Int))(c:hcode9 h l n a≠0):icode h l n b fh k=hcode9 h l n a:=by
 unfold icode
 rw[e,Int.toNat_natCast,if_pos c]
theorem aCk {h:HD}{l:List Int}{n:Nat}{b fh:Nat→Int}{k a:Nat}(e:b k=(a:Int))(d:hcode9 h l n a=0)(c:bnum l a 1 6 0≠fh k):icode h l n b fh k=9:=by
 unfold icode
 rw[e,Int.toNat_natCast,if_neg (by omega),if_neg c]
theorem aBG {h:HD}{l:List Int}{n:Nat}{b fh:Nat→Int}{k a:Nat}(e:b k=(a:Int))(d:hcode9 h l n a=0)(c:bnum l a 1 6 0=fh k):icode h l n b fh k=splitE (bpay l a 1 6):=by
 unfold icode
 rw[e,Int.toNat_natCast,if_neg (by omega),if_pos c]
theorem In2.older {w w':World}{a:Option Addr}{n:Nat}{f g:Nat→Int}(h:In2 w a n f g)(j:Below w.heap.size w w'):In2 w' a n f g:=fun i hi=>by
 obtain⟨b,c,e,d,k,m,l⟩:=h i hi
 exact⟨b,c,e,yL d j.size,(j.cell (p:=⟨b,c+i*2,none⟩) d).trans k,(j.cell (p:=⟨b,c+i*2+1,none⟩) d).trans m,l⟩
theorem aE2 (l:List Int):(splitN l).length≤l.length:=by
 unfold splitN;split
 ·rw[List.length_take];omega
 ·exact Nat.zero_le _
theorem aE3 (l:List Int):(splitV l).length≤l.length:=by
 unfold splitV;split
 ·rw[List.length_drop];omega
 ·exact Nat.zero_le _
theorem aEo {l:List Int}(h:AllB l)(b:l.length≤1000000):okP (splitN l,splitV l):=by
 have a:=aE2 l
 have c:=aE3 l
 exact⟨aJj h,aJk h,by unfold maxLen;show(splitN l).length≤_;omega,by unfold maxLen;show(splitV l).length≤_;omega⟩
theorem LR.start {w4 wr:World}{b:Nat}{s r m:Int}{K:Nat→Int}{P:Nat→List Int}(c:Below b w4 wr)(a:Blk wr b (recL s r m K (.slice none 0 0)) 64):LR w4 wr b s r m K P none 0 none 0 [] 0 0:=
 {old:=c,rc:=a,fld:=OwnP.nil _ _ a.lt,own:=OwnE.nil _ _ a.lt,pay:=⟨fun r a=>absurd a (Nat.not_lt_zero r)⟩,far:=(fun x hx=>by cases hx),apart:=(fun g hg=>by cases hg)}
theorem aEp {w:World}{g:Nat}{T:TypeId}{s r m x:Int}{K:Nat→Int}{A:Option Addr}{n c:Nat}(h:Blk w g (entL s r m K x A n c) T):w.rangeAt g 3 (idJ K):=fun j v hj=>by
 have a:j<16:=(List.getElem?_eq_some_iff.1 hj).1
 refine h.cell (i:=3+j) ?_
 rw[aC7 K j a]at hj
 unfold entL
 rcases j with _|_|_|_|_|_|_|_|_|_|_|_|_|_|_|_|j
 all_goals first|exact hj|omega
theorem aAo (s r m:Int)(K:Nat→Int)(A:Option Addr)(n c:Nat):(recL s r m K (.slice A n c)).toArray.all (·.oneCell')=true:=by simp[Value.oneCell']
theorem ent_cell {w:World}{g:Nat}{T:TypeId}{s r m x:Int}{K:Nat→Int}{A:Option Addr}{n c:Nat}(h:Blk w g (entL s r m K x A n c) T):w.cell? ⟨g,0,none⟩=some (.int .u64 s)∧w.cell? ⟨g,1,none⟩=some (.int .u64 r)∧w.cell? ⟨g,2,none⟩=some (.int .u64 m)∧w.cell? ⟨g,19,none⟩=some (.int .u64 x)∧w.cell? ⟨g,20,none⟩=some (.slice A n c):=
 ⟨h.cell (i:=0) rfl,h.cell (i:=1) rfl,h.cell (i:=2) rfl,h.cell (i:=19) rfl,h.cell (i:=20) rfl⟩
def natOf:Value→Nat
 | .int _ z=>z.toNat
 |_=>0
def ReadR (B:Nat)(h:HD)(l:List Int)(n a:Nat)(e:Ending)(w':World):Prop:=
 (rcode h l n a≠0∧e= .panicked [haltE (rcode h l n a)])∨(rcode h l n a=0∧ ∃F cF,e= .returned (.agg (recL (eNum l a 0) (eNum l a 8) (eNum l a 16) (eK l a) (.slice F (eN l a) cF)).toArray)∧Prs w' F (prsL (payP l (itA (bodyL l a))) (eN l a))∧NewIn B F)
attribute [local irreducible] wpList Code.wp ofS bnum bpay bcode hcode9 icode splitE splitN splitV xr rowsL prsL lcode
theorem aNv {gv:Nat}{h:HD}{A:Option Addr}{n c:Nat}{l:List Int}(a:Nat)(w:World)(v:ViewAt w gv h A n c l)(bk:c≤maxLen)(h8:n≤800000):
 Calls Tryz.prog 149 #[.pointer (some ⟨gv,0,none⟩),.int .u64 (a:Int)] w fun e w'=>Below w.heap.size w w'∧ReadR w.heap.size h l n a e w':=by
 have b1:=yH ((yB w.heap.size w).alloc (yR _) (.cells zR 64))
 have v1:=v.below b1.out
 have HV:=yH (aNt a _ v1 bk)
 have Vw:=yH fun(W:World) (hW:Below w.heap.size w W)=>v.below hW
 have Z1:=yH (heap_alloc_new w (.cells zR 64))
 have s1:=yH (show w.heap.size<(w.alloc (.cells zR 64)).heap.size by simp)
 have bG:l.length≤800000:=by have:=v.len;omega
 unfold ReadR
 have aa:=yH (aLn h l n (ecode9 h l n a) (eN l a) (itA (bodyL l a)) (itH (bodyL l a)) (eNum l a 40))
 have bn:rcode h l n a=rcodeF h l n (ecode9 h l n a) (eN l a) (itA (bodyL l a)) (itH (bodyL l a)) (eNum l a 40):=rfl
 rw[bn]
 clear bn
 generalize rcodeF h l n (ecode9 h l n a) (eN l a) (itA (bodyL l a)) (itH (bodyL l a)) (eNum l a 40)=rc at*
 unfold ReadE at HV
 generalize eNum l a 0=R at*
 generalize eNum l a 8=N at*
 generalize eNum l a 16=f at*
 generalize eNum l a 40=m at*
 generalize eK l a=J at*
 generalize eN l a=mm at*
 generalize itA (bodyL l a)=fa at*
 generalize ecode9 h l n a=cd at*
 generalize itH (bodyL l a)=fh at*
 clear v v1
 by_cases hz:cd≠0
 ·have j:=aa.out.a hz
  subst j
  go_enter Tryz.func149,Tryz.ntmps149
  go_wp2_with(first
   |(go_at_call 177;(refine HV.out.mono ?_);rintro e w3 ⟨aD,⟨_,rfl⟩|⟨he,_⟩⟩;rotate_left;(exact absurd he hz);have B3:=yH (b1.out.trans (aD.mono b1.out.size));clear aD)
   |fail)
  exact⟨rfl,B3.out,.inl ⟨hz,rfl⟩⟩
 have hz:cd=0:=by omega
 subst hz
 go_enter Tryz.func149,Tryz.ntmps149
 go_upto_region 2 with(first
  |(go_at_call 177;(refine HV.out.mono ?_);rintro e w2 ⟨aB,⟨ai,_⟩|⟨_,A2,c2,rfl,ba,bs⟩⟩;(exact absurd rfl ai);have B2:=yH (b1.out.trans (aB.mono b1.out.size));have bg:=yH ba;have Z2:=yH ((aB.block _ s1.out).trans Z1.out);have aT:=yH (show w.heap.size<w2.heap.size from yL s1.out aB.size);clear aB ba bs)
  |((with_reducible apply aAa (.tmp 5) (.tmp 13));refine wpList_store_row rfl 299 (.tmp 5) (.tmp 13) rfl w2.heap.size (entL R N f J m A2 mm c2).toArray rfl rfl 299 ez (heap_alloc_new w2 _) (by kernel_rfl) rfl (by first|exact aBB _ _ _ _ _ _ _ _|exact aCt) ?_)
  |fail)
 have R3:=yH (show Blk ((w2.alloc (.cells ez 299)).setRow w2.heap.size (entL R N f J m A2 mm c2).toArray) w2.heap.size (entL R N f J m A2 mm c2) 299 from setRow_heap _ _ _ _ _ (0,0) (heap_alloc_new w2 _))
 have ap:=yH (show Below w2.heap.size w2 ((w2.alloc (.cells ez 299)).setRow w2.heap.size (entL R N f J m A2 mm c2).toArray)from below_setRow ((yB _ _).alloc (yR _) _) (yR _) _)
 generalize (w2.alloc (.cells ez 299)).setRow w2.heap.size (entL R N f J m A2 mm c2).toArray=w3 at*
 have B3:=yH (B2.out.trans (ap.out.mono B2.out.size))
 have bE:=yH (In2.older bg.out ap.out)
 have Z3:=yH ((ap.out.block _ aT.out).trans Z2.out)
 have bM:w.heap.size<w3.heap.size:=yL aT.out ap.out.size
 have bV:w2.heap.size<w3.heap.size:=R3.out.lt
 generalize w2.heap.size=s5 at*
 obtain⟨c0,c1,bc,bm,c20⟩:=ent_cell R3.out
 clear HV B2 bg Z2 aT ap Z1 s1
 by_cases bu:16<mm
 ·have j:=aa.out.b rfl bu
  subst j
  have d:decide ((mm:Int)≤16)=false:=by simp;omega
  have d': ¬((mm:Int)≤16):=by omega
  clear c0 c1 bc bm
  go_wp2_with(first
   |(go_at_call 178;(refine(aBF 21 _).mono ?_);rintro e w5 ⟨rfl,rfl⟩)
   |fail)
  exact⟨rfl,B3.out,.inl ⟨by decide,rfl⟩⟩
 have d:decide ((mm:Int)≤16)=true:=by simp;omega
 have a7:=yH (aEp R3.out)
 go_upto_region 5 with(first
  |(go_at_call 178;(refine(aA4 21 _).mono ?_);rintro e w5 ⟨rfl,rfl⟩)
  |((with_reducible apply aAb 26);refine wpList_load_mid rfl 61 (.tmp 25) rfl s5 3 rfl (idJ J) _ a7.out Tryz.underlying61 rfl (aBl _) ?_)
  |((with_reducible apply aAb 27);refine Yz.wpList_build_as rfl 64 _ rfl (recL R N f J (.slice none 0 0)).toArray (by kernel_rfl) ?_)
  |((with_reducible apply aAa (.tmp 6) (.tmp 27));refine wpList_store_row rfl 64 (.tmp 6) (.tmp 27) rfl w3.heap.size (recL R N f J (.slice none 0 0)).toArray rfl rfl 64 zR (heap_alloc_new w3 _) (aAm _ _ _ _ _) rfl (aAo _ _ _ _ _ _ _) ?_)
  |fail)
 have R5:=yH (show Blk ((w3.alloc (.cells zR 64)).setRow w3.heap.size (recL R N f J (.slice none 0 0)).toArray) w3.heap.size (recL R N f J (.slice none 0 0)) 64 from setRow_heap _ _ _ _ _ (0,0) (heap_alloc_new w3 _))
 have aP:=yH (show Below w3.heap.size w3 ((w3.alloc (.cells zR 64)).setRow w3.heap.size (recL R N f J (.slice none 0 0)).toArray)from below_setRow ((yB _ _).alloc (yR _) _) (yR _) _)
 generalize (w3.alloc (.cells zR 64)).setRow w3.heap.size (recL R N f J (.slice none 0 0)).toArray=w5 at*
 generalize a6:w3.heap.size=C at*
 have L0:=yH (LR.start (P:=payP l fa) aP.out R5.out)
 have E5:=yH (R3.out.below aP.out (by omega))
 have a9:=(ent_cell E5.out).2.2.2.2
 have al:=yH a6.symm
 clear c0 c1 bc bm c20 a7 R5 aP a6
 go_upto_region 6 with fail
 clear a9 E5
 go_loopw [7,31] (fun p i wr=> ∃(k:Nat) (F:Option Addr) (cF:Nat) (PA:Option Addr) (cP:Nat) (E:List Row4),p= .slice PA k cP∧i= .int .i64 (k:Int)∧k≤mm∧Hid (LR w3 wr C R N f J (payP l fa) F cF PA cP E k k)∧Hid (E.length=k)∧Hid (∀i,i<k→icode h l n fa fh i=0)) (fun _ i _=>mm-natOf i)
 case atStart=>exact⟨0,none,0,none,0,[],rfl,rfl,Nat.zero_le _,L0,yH rfl,yH (fun i hi=>absurd hi (Nat.not_lt_zero i))⟩
 case round=>
  obtain⟨k,F,cF,PA,cP,E,rfl,rfl,hk,HL,an,t⟩:=hrel
  have BW:=yH (show Below w.heap.size w wr from B3.out.trans (HL.out.old.mono (by omega)))
  have ar:=yH (show Below w3.heap.size w3 wr from al.out▸HL.out.old)
  by_cases aA:k<mm
  ·have d1:decide ((k:Int)<(mm:Int))=true:=by simp;omega
   obtain⟨bI,oI,rfl,bU,a2,bF,bL,bW⟩:=(In2.older bE.out ar.out) k aA
   obtain⟨D,aG⟩: ∃D:Nat,fa k=(D:Int):=⟨(fa k).toNat,by omega⟩
   rw[aG]at a2
   have aR:=yH aG
   have aQ:=yH (show payP l fa k=bpay l D 1 6 by unfold payP;rw[aG,Int.toNat_natCast])
   clear aG bL
   generalize bo:fh k=g2 at*
   have bA:=yH bo
   clear bo
   go_upto_region 8 with fail
   have R6:=yH (show Blk (wr.alloc (.cells #[.int .u64 (D:Int),.int .u64 g2] 302)) wr.heap.size [.int .u64 (D:Int),.int .u64 g2] 302 from Blk.new wr _ _)
   have B6:=yH (show Below wr.heap.size wr (wr.alloc (.cells #[.int .u64 (D:Int),.int .u64 g2] 302))from(yB _ _).alloc (yR _) _)
   generalize wr.alloc (.cells #[.int .u64 (D:Int),.int .u64 g2] 302)=w6 at*
   have ag:=yH (BW.out.trans (B6.out.mono BW.out.size))
   have V:=yH (HL.out.below B6.out)
   have bH:wr.heap.size<w6.heap.size:=R6.out.lt
   generalize wr.heap.size=s9 at*
   have k0:=R6.out.cell (i:=0) rfl
   have HH:=yH (aJH D w6 (Vw.out w6 ag.out) bk h8)
   unfold ReadD at HH
   clear a2 bF BW ar B6
   by_cases hc:hcode9 h l n D=0
   ·rw[hc]at HH
    have a1:=yH (aIK (aE1 hc))
    have ax:=yH fun(e:bnum l D 1 6 0≠fh k)=>aCk (fh:=fh) aR.out hc e
    have aE:=yH fun(e:bnum l D 1 6 0=fh k)=>aBG (fh:=fh) aR.out hc e
    have aC:=yH (show(bpay l D 1 6).length≤800000 from Nat.le_trans (aFH l D 1 6) bG)
    rw[bA.out]at ax aE
    generalize bnum l D 1 6 0=y0 at*
    generalize bnum l D 1 6 1=y1 at*
    generalize bnum l D 1 6 2=y2 at*
    generalize bnum l D 1 6 3=y3 at*
    generalize bnum l D 1 6 4=y4 at*
    generalize bnum l D 1 6 5=y5 at*
    generalize bpay l D 1 6=M at*
    go_upto_region 9 with(first
     |(go_at_call 179;(refine HH.out.mono ?_);rintro e w7 ⟨y,⟨ai,_⟩|⟨_,A3,H,G,rfl,aY,aF,a5⟩⟩;(exact absurd rfl ai);have B7:=yH y;have aW:=yH aY;have av:=yH a5;clear y aY a5)
     |((with_reducible apply aAa (.tmp 10) (.tmp 38));refine wpList_store_row rfl 238 (.tmp 10) (.tmp 38) rfl w7.heap.size #[.int .u64 y0,.int .u64 y1,.int .u64 y2,.int .u64 y3,.int .u64 y4,.int .u64 y5,.slice A3 H G] rfl rfl 238 dz (heap_alloc_new w7 _) (by kernel_rfl) rfl (by simp[Value.oneCell']) ?_)
     |fail)
    obtain⟨g,z,rfl,aD,_⟩:=aW.out.2 0 (by rw[←aF]at*;exact a1.out)
    have R8:=yH (show Blk ((w7.alloc (.cells dz 238)).setRow w7.heap.size #[.int .u64 y0,.int .u64 y1,.int .u64 y2,.int .u64 y3,.int .u64 y4,.int .u64 y5,.slice (some ⟨g,z,none⟩) H G]) w7.heap.size [.int .u64 y0,.int .u64 y1,.int .u64 y2,.int .u64 y3,.int .u64 y4,.int .u64 y5,.slice (some ⟨g,z,none⟩) H G] 238 from setRow_heap _ _ _ _ _ (0,0) (heap_alloc_new w7 _))
    have aw:=yH (show Below w7.heap.size w7 ((w7.alloc (.cells dz 238)).setRow w7.heap.size #[.int .u64 y0,.int .u64 y1,.int .u64 y2,.int .u64 y3,.int .u64 y4,.int .u64 y5,.slice (some ⟨g,z,none⟩) H G])from below_setRow ((yB _ _).alloc (yR _) _) (yR _) _)
    generalize (w7.alloc (.cells dz 238)).setRow w7.heap.size #[.int .u64 y0,.int .u64 y1,.int .u64 y2,.int .u64 y3,.int .u64 y4,.int .u64 y5,.slice (some ⟨g,z,none⟩) H G]=w8 at*
    have az:=yH (show Below w6.heap.size w6 w8 from B7.out.trans (aw.out.mono B7.out.size))
    have aN:=yH (ag.out.trans (az.out.mono ag.out.size))
    have aU:=yH (V.out.below az.out)
    have am:=yH (aW.out.below aw.out (yR _))
    have k1:=(R6.out.below az.out bH).cell (i:=1) rfl
    have j0:=R8.out.cell (i:=0) rfl
    have bN:g<w8.heap.size:=yL aD aw.out.size
    have au:=yH (show C<g∧ownB F≠some g∧ownB PA≠some g from by
     have h1:=av.out.2.2.2 g z rfl
     have h2:=V.out.lt
     refine⟨by omega,fun e=>?_,fun e=>?_⟩
     ·have:=(OwnE.ltB V.out.fld.2.2 g e).2;omega
     ·have:=(OwnE.ltB V.out.own g e).2;omega)
    have aZ:=yH (show ownB F≠some w7.heap.size∧ownB PA≠some w7.heap.size from⟨fun e=>by have:=(OwnE.ltB (V.out.below B7.out).fld.2.2 _ e).2;omega,fun e=>by have:=(OwnE.ltB (V.out.below B7.out).own _ e).2;omega⟩)
    have a0:=yH (show H≤G∧G≤maxLen from⟨av.out.2.1,av.out.2.2.1⟩)
    have a3:C≠w7.heap.size:=by have h1:=V.out.lt;have h2:=B7.out.size;omega
    generalize w7.heap.size=aj at*
    clear HH k0 B7 aW av aw R6 V HL ag az
    by_cases he:y0=g2
    ·have d2:(y0==g2)=true:=by simpa using he
     have HI:=yH (aE.out he)
     clear ax aE
     go_upto_region 10 with(first
      |(go_at_call 178;(refine(aA4 9 _).mono ?_);rintro e wn ⟨rfl,rfl⟩)
      |fail)
     clear d1 d2 k1 j0
     by_cases ah:splitE M=0
     ·have bd:icode h l n fa fh k=0:=HI.out.trans ah
      have af:=yH fun(W:World) (hW:Bytes W (some ⟨g,z,none⟩) M)=>aF4 (some ⟨g,z,none⟩) M H G W hW aF (by have:=aC.out;omega)
      unfold Splitted at af
      rw[ah]at af
      have bl:=yH bd
      have bt:=yH (show okP (splitN M,splitV M)from aEo am.out.1 (by have:=aC.out;omega))
      clear HI ah bd
      have Y:=yH (aU.out.below (yB w8.heap.size w8).drew)
      have aO:=yH (R8.out.drew)
      have b0:=Y.out.rc.cell (i:=19) rfl
      have j6:=aO.out.cell (i:=6) rfl
      have I:=R8.out.lt
      have bO:=aU.out.lt
      have ay:=yH fun(W:World)=>Blk.new W [.string (T (splitN M)),.string (T (splitV M))] 24
      go_cut []from 45 to 56 (fun wx=> ∃(F2:Option Addr) (ab:Nat),Hid (LR w3 wx C R N f J (payP l fa) F2 ab PA cP E (k+1) k)∧Hid (Bytes wx (some ⟨g,z,none⟩) M)∧Hid (Blk wx aj [.int .u64 y0,.int .u64 y1,.int .u64 y2,.int .u64 y3,.int .u64 y4,.int .u64 y5,.slice (some ⟨g,z,none⟩) H G] 238)∧Hid (C<g∧g<wx.heap.size∧ownB F2≠some g∧ownB PA≠some g))
      case first=>
       go_region_law (first
        |(refine aCS aEb (o:=⟨some 54,_,_,_,_,_⟩) rfl (.tmp 46) (.tmp 53) rfl (C+1) F k cF (cellsP (prsL (payP l fa) k)) rfl (q.out.fld.2.2) ⟨w11.heap.size,0,none⟩ 1 1 [.string (T (splitN M)),.string (T (splitV M))] rfl rfl (Blk.news (ay.out w11)) (by intro u hu;simp at hu;rcases hu with rfl|rfl<;>rfl) (by omega) (by omega) (by unfold maxLen;omega) ?_;intro F2 ab w13 aK x ae;have bz:=yH (LR.field q.out (by rw[aQ.out];exact bt.out) (by rw[aQ.out];exact aK) x ae);have aS:=x.size;have bK:=yH (show ownB F2≠some g from fun e=>by rcases ae with e1|e1;(exact au.out.2.1 (e1▸e));rw[e1]at e;injection e with e;have:=aq.out.size;omega);have bp:=yH (show Bytes (w13.setCell ⟨C,19,none⟩ (.slice F2 (k+1) ab)) (some ⟨g,z,none⟩) M from aBe bi.out (by simpa using aS) (fun b off e hb=>by injection e with e;injection e with e1 e2;subst e1;exact(Below.heap_setCell w13 ⟨C,19,none⟩ _ _ (Nat.ne_of_gt au.out.1)).trans (x.block _ hb (fun e=>au.out.2.1 e.symm))));have RF:=yH (show Blk (w13.setCell ⟨C,19,none⟩ (.slice F2 (k+1) ab)) aj [.int .u64 y0,.int .u64 y1,.int .u64 y2,.int .u64 y3,.int .u64 y4,.int .u64 y5,.slice (some ⟨g,z,none⟩) H G] 238 from((Below.heap_setCell w13 ⟨C,19,none⟩ _ _ a3.symm).trans (x.block _ bq.out.lt (fun e=>aZ.out.1 e.symm))).trans bq.out);have n19:=(show Blk w13 C _ _ from(x.block C q.out.lt (fun e=>by have:=(OwnE.ltB q.out.fld.2.2 C e.symm).1;omega)).trans q.out.rc).cell (i:=19) rfl;have bR:=(show Blk w13 C _ _ from(x.block C q.out.lt (fun e=>by have:=(OwnE.ltB q.out.fld.2.2 C e.symm).1;omega)).trans q.out.rc).frozen 19;clear aK x ae)
        |(go_simp;go_at_call 181;(refine(af.out _ am.out.drew).mono ?_);rintro e w9 ⟨rfl,Z⟩;have X:=yH ((yB w8.heap.size w8).drew.trans Z);have bb:=yH (Y.out.below Z);have bP:=bb.out.rc.cell (i:=19) rfl;have bT:=yH (am.out.below X.out (yR _));have R9:=yH (R8.out.below X.out I);clear Z)
        |(go_simp;go_at_call 180;(refine(aNu _ _ w9).mono ?_);rintro e w11 ⟨rfl,L⟩;have aL:=yH (X.out.trans (L.mono X.out.size));have aI:=yH (bb.out.below L);have bS:=aI.out.rc.cell (i:=19) rfl;have aq:=yH (aL.out.alloc aL.out.size (.cells #[.string (T (splitN M)),.string (T (splitV M))] 24));have q:=yH (aI.out.below ((yB _ _).alloc (yR _) (.cells #[.string (T (splitN M)),.string (T (splitV M))] 24)));have bY:=q.out.rc.cell (i:=19) rfl;have bi:=yH (am.out.below aq.out (yR _));have bq:=yH (R8.out.below aq.out I);clear L))
       all_goals
        go_wp2_with fail
        go_meet
        case rel=>exact⟨F2,ab,bz,bp,RF,yH ⟨au.out.1,by have h1:=bp.out.2 0 a1.out;obtain⟨b9,o9,e9,h9,_⟩:=h1;injection e9 with e9;injection e9 with e9 _;rw[e9];exact h9,bK.out,au.out.2.2⟩⟩
      case rest=>
       rename World=>w14
       obtain⟨F2,ab,a4,bj,bw,ad⟩:=hcut
       have bX:=bw.out.cell (i:=6) rfl
       have bQ:IntKind.i64.wrap ((k:Int)+1)=((k+1:Nat):Int):=by rw[IntKind.wrap_i64];omega
       have aH:=yH (a4.out.below ((yB _ _).alloc (yR _) (.cells #[.slice (some ⟨g,z,none⟩) H G] 26)))
       have bf:=yH (bj.out.below ((yB _ _).alloc (yR _) (.cells #[.slice (some ⟨g,z,none⟩) H G] 26)) (yR _))
       have aV:w14.heap.size<(w14.alloc (.cells #[.slice (some ⟨g,z,none⟩) H G] 26)).heap.size:=by simp
       go_wp2_with(first
        |(at_builtin;refine aAe Yb.aOo rfl (.tmp 56) (.tmp 59) rfl (C+1) PA k cP (E.map Row4.v) rfl aH.out.own ⟨w14.heap.size,0,none⟩ 1 1 [.slice (some ⟨g,z,none⟩) H G] rfl rfl (Blk.news (Blk.new w14 _ _)) (by intro u hu;simp at hu;rw[hu];rfl) (by omega) (by omega) (by unfold maxLen;omega) ?_;intro bx bB w16 aJ aM ao;have bh:=yH (LR.payload aH.out ⟨g,z,H,G⟩ an.out (by rw[aQ.out];exact⟨bf.out,aF,a0.out.1,a0.out.2,show H≤800000 from by have:=aC.out;omega⟩) ⟨ad.out.1,Nat.lt_trans ad.out.2.1 aV,ad.out.2.2⟩ aJ aM ao);clear aJ aM ao)
        |fail)
       go_roundw
       case rel=>exact⟨k+1,F2,ab,bx,bB,E++ [⟨g,z,H,G⟩],rfl,rfl,by omega,bh,yH (by rw[yA,an.out];rfl),yH (fun i hi=>by rcases Nat.lt_or_ge i k with h1|h1;(exact t.out i h1);have e:i=k:=by {omega};subst e;exact bl.out)⟩
       case measure=>simp[natOf];omega
     ·have j:=aa.out.c rfl (by omega) k aA t.out (by rw[HI.out];exact ah)
      rw[HI.out]at j
      have s:=yH j
      clear j
      have af:=yH (aF4 (some ⟨g,z,none⟩) M H G w8.drew am.out.drew aF (by have:=aC.out;omega))
      unfold Splitted at af
      have Y:=yH (aU.out.below (yB w8.heap.size w8).drew)
      have aO:=yH (R8.out.drew)
      have I:=R8.out.lt
      have Sd:=yH (show w8.drew.cell? ⟨C,19,none⟩=some (.slice F k cF)∧w8.drew.cell? ⟨aj,6,none⟩=some (.slice (some ⟨g,z,none⟩) H G)from⟨Y.out.rc.cell (i:=19) rfl,aO.out.cell (i:=6) rfl⟩)
      generalize splitE M=sc at*
      refine wp_region_held_drew (S:=fun W:World=>W.cell? ⟨C,19,none⟩=some (.slice F k cF)∧W.cell? ⟨aj,6,none⟩=some (.slice (some ⟨g,z,none⟩) H G)) (by kernel_rfl) (by exact Sd.out) (fun hHeld=>?_)
      refine tq 0 45 rfl (fun W hSw=>by obtain⟨r,x6⟩:=hSw;go_simp;try (with_reducible rfl)) ?_
      try simp only[Act.put,sA,sZ,sS]
      refine tq 1 46 rfl (fun W hSw=>by obtain⟨r,x6⟩:=hSw;go_simp;try (with_reducible rfl)) ?_
      try simp only[Act.put,sA,sZ,sS]
      refine tq 2 47 rfl (fun W hSw=>by obtain⟨r,x6⟩:=hSw;go_simp;try (with_reducible rfl)) ?_
      try simp only[Act.put,sA,sZ,sS]
      refine tq 3 48 rfl (fun W hSw=>by obtain⟨r,x6⟩:=hSw;go_simp;try (with_reducible rfl)) ?_
      try simp only[Act.put,sA,sZ,sS]
      refine rd 4 rfl (fun K hK=>?_)
      go_simp
      ((refine af.out.mono ?_);rintro e w9 ⟨rfl,Z⟩;have X:=yH ((yB w8.heap.size w8).drew.trans Z);have S9:=yH (show w9.cell? ⟨C,19,none⟩=some (.slice F k cF)∧w9.cell? ⟨aj,6,none⟩=some (.slice (some ⟨g,z,none⟩) H G)from⟨(Y.out.below Z).rc.cell (i:=19) rfl,(R8.out.below X.out I).cell (i:=6) rfl⟩);clear Z)
      try go_wp2_with fail
      refine hK.out _ _ (by exact S9.out) (fun hHeld=>?_)
      clear hK K
      try simp only[Act.put,sA,sZ,sS]
      refine tq 5 50 rfl (fun W hSw=>by obtain⟨r,x6⟩:=hSw;go_simp;try (with_reducible rfl)) ?_
      try simp only[Act.put,sA,sZ,sS]
      refine tq 6 51 rfl (fun W hSw=>by obtain⟨r,x6⟩:=hSw;go_simp;try (with_reducible rfl)) ?_
      try simp only[Act.put,sA,sZ,sS]
      refine rd 7 rfl (fun K hK=>?_)
      go_simp
      ((refine(aPa _ _ _ ah w9).mono ?_);rintro e w11 ⟨rfl,L⟩;exact⟨rfl,aN.out.trans ((X.out.trans (L.mono X.out.size)).mono aN.out.size),.inl ⟨by rw[s.out];exact ah,by rw[s.out]⟩⟩)
    ·have d2:(y0==g2)=false:=by simpa using he
     have HI:=yH (ax.out he)
     have j:=aa.out.c rfl (by omega) k aA t.out (by rw[HI.out];decide)
     rw[HI.out]at j
     have s:=yH j
     clear j ax aE
     go_wp2_with(first
      |(go_at_call 178;(refine(aBF 9 _).mono ?_);rintro e wn ⟨rfl,rfl⟩)
      |fail)
     exact⟨rfl,aN.out,.inl ⟨by rw[s.out];decide,by rw[s.out]⟩⟩
   ·have HI:=yH (aDd (fh:=fh) aR.out hc)
    have j:=aa.out.c rfl (by omega) k aA t.out (by rw[HI.out];exact hc)
    rw[HI.out]at j
    have s:=yH j
    clear j
    generalize hcode9 h l n D=bZ at*
    go_wp2_with(first
     |(go_at_call 179;(refine HH.out.mono ?_);rintro e w7 ⟨y,⟨_,rfl⟩|⟨ai,_⟩⟩;rotate_left;(exact absurd ai hc);have B7:=yH y;clear y)
     |fail)
    exact⟨rfl,ag.out.trans (B7.out.mono ag.out.size),.inl ⟨by rw[s.out];exact hc,by rw[s.out]⟩⟩
  ·have bv:k=mm:=by omega
   subst bv
   have d1:decide ((k:Int)<(k:Int))=false:=by simp
   have Er:=yH (R3.out.below ar.out (by have:=al.out;omega))
   have HX:=yH (show True∧Calls Tryz.prog 182 #[.slice PA k cP] wr.drew fun e w'=>e= .returned (.int .u64 ((xr (rowsL (payP l fa) k):Nat):Int))∧Below wr.drew.heap.size wr.drew w' from by
    obtain⟨Ax,Lx,Cx,bJ,br⟩:=LR.inRows (HL.out.below (yB wr.heap.size wr).drew) an.out
    exact⟨trivial,aPl PA k cP Ax Lx Cx _ _ bJ (by omega) br⟩)
   have Sd:=yH (show wr.drew.cell? ⟨s5,19,none⟩=some (.int .u64 m)from(ent_cell Er.out.drew).2.2.2.1)
   have bC:=yH fun(e:m≠((xr (rowsL (payP l fa) k):Nat):Int))=>aa.out.d rfl (by omega) t.out e
   have bD:=yH fun(e:m=((xr (rowsL (payP l fa) k):Nat):Int))=>aa.out.e rfl (by omega) t.out e
   have Z0:=yH ((BW.out.trans (yB _ _)).size)
   have Zr:=yH ((ar.out.block w.heap.size (by have:=al.out;omega)).trans Z3.out)
   generalize ((xr (rowsL (payP l fa) k):Nat):Int)=xx at*
   go_upto_region 13 with fail
   by_cases he:m=xx
   ·have d2:(m==xx)=true:=by simpa using he
    have s:=yH (bD.out he)
    refine wp_region_held_drew (S:=fun W:World=>W.cell? ⟨s5,19,none⟩=some (.int .u64 m)) (by kernel_rfl) (by exact Sd.out) (fun hHeld=>?_)
    refine tq 0 62 rfl (fun W hSw=>by have r:=hSw;go_simp;try (with_reducible rfl)) ?_
    try simp only[Act.put,sA,sZ,sS]
    refine tq 1 63 rfl (fun W hSw=>by have r:=hSw;go_simp;try (with_reducible rfl)) ?_
    try simp only[Act.put,sA,sZ,sS]
    refine tq 2 64 rfl (fun W hSw=>by have r:=hSw;go_simp;try (with_reducible rfl)) ?_
    try simp only[Act.put,sA,sZ,sS]
    refine rd 3 rfl (fun K hK=>?_)
    go_simp
    ((refine(HX.out.2).mono ?_);rintro e w7 ⟨rfl,y⟩;have ac:=yH ((yB wr.heap.size wr).drew.trans y);have S7:=yH (show w7.cell? ⟨s5,19,none⟩=some (.int .u64 m)from(ent_cell (Er.out.below ac.out Er.out.lt)).2.2.2.1);clear y)
    try go_wp2_with fail
    refine hK.out _ _ (by exact S7.out) (fun hHeld=>?_)
    clear hK K
    try simp only[Act.put,sA,sZ,sS]
    refine tq 4 66 rfl (fun W hSw=>by have r:=hSw;go_simp;try (with_reducible rfl)) ?_
    try simp only[Act.put,sA,sZ,sS]
    refine rd 5 rfl (fun K hK=>?_)
    go_simp
    ((refine(aA4 10 _).mono ?_);rintro e wn ⟨rfl,rfl⟩)
    try go_wp2_with fail
    refine hK.out _ _ (by exact S7.out) (fun hHeld=>?_)
    clear hK K
    try simp only[Act.put,sA,sZ,sS]
    refine wpAnyH_done (by kernel_rfl) ?_ _
    have aX:=yH (HL.out.below ac.out)
    have Z7:=yH ((ac.out.block _ (yL (by have:=al.out;omega) ar.out.size)).trans Zr.out)
    go_wp2_with(first
     |((with_reducible apply aAb 68);refine wpList_load_row rfl 64 (.tmp 6) rfl C rfl 64 (recL R N f J (.slice F k cF)).toArray (0,0) _ aX.out.rc Tryz.underlying64 rfl (aAm _ _ _ _ _) ?_)
     |((with_reducible apply aAa (.tmp 4) (.tmp 68));refine wpList_store_row rfl 64 (.tmp 4) (.tmp 68) rfl w.heap.size (recL R N f J (.slice F k cF)).toArray rfl rfl 64 zR Z7.out (aAm _ _ _ _ _) rfl (aAo _ _ _ _ _ _ _) ?_)
     |fail)
    refine bodyPost_ret (v:= .agg (recL R N f J (.slice F k cF)).toArray) (by exact results_cell_row Tryz.results149 _ _ w.heap.size 64 _ (0,0) _ rfl (setRow_heap _ w.heap.size _ _ _ (0,0) Z7.out) Tryz.underlying64 rfl (aAm _ _ _ _ _)) rfl ?_
    have b5:=below_setRow (B:=w.heap.size) (BW.out.trans (ac.out.mono BW.out.size)) (yR _) (recL R N f J (.slice F k cF)).toArray
    have a8:NewIn (w.heap.size+1) F:=fun b off e=>by have h1:=(OwnE.ltB aX.out.fld.2.2 b (by rw[e];rfl)).1;have:=al.out;omega
    exact⟨b5,.inr ⟨s.out,F,cF,rfl,Prs.keptB (aX.out.fld.prs) (by simp) (fun b off e hb=>setRow_other _ w.heap.size b _ (by have h1:=a8 b off e;omega)),fun b off e=>by have h1:=a8 b off e;omega⟩⟩
   ·have d2:(m==xx)=false:=by simpa using he
    have s:=yH (bC.out he)
    refine wp_region_held_drew (S:=fun W:World=>W.cell? ⟨s5,19,none⟩=some (.int .u64 m)) (by kernel_rfl) (by exact Sd.out) (fun hHeld=>?_)
    refine tq 0 62 rfl (fun W hSw=>by have r:=hSw;go_simp;try (with_reducible rfl)) ?_
    try simp only[Act.put,sA,sZ,sS]
    refine tq 1 63 rfl (fun W hSw=>by have r:=hSw;go_simp;try (with_reducible rfl)) ?_
    try simp only[Act.put,sA,sZ,sS]
    refine tq 2 64 rfl (fun W hSw=>by have r:=hSw;go_simp;try (with_reducible rfl)) ?_
    try simp only[Act.put,sA,sZ,sS]
    refine rd 3 rfl (fun K hK=>?_)
    go_simp
    ((refine(HX.out.2).mono ?_);rintro e w7 ⟨rfl,y⟩;have ac:=yH ((yB wr.heap.size wr).drew.trans y);have S7:=yH (show w7.cell? ⟨s5,19,none⟩=some (.int .u64 m)from(ent_cell (Er.out.below ac.out Er.out.lt)).2.2.2.1);clear y)
    try go_wp2_with fail
    refine hK.out _ _ (by exact S7.out) (fun hHeld=>?_)
    clear hK K
    try simp only[Act.put,sA,sZ,sS]
    refine tq 4 66 rfl (fun W hSw=>by have r:=hSw;go_simp;try (with_reducible rfl)) ?_
    try simp only[Act.put,sA,sZ,sS]
    refine rd 5 rfl (fun K hK=>?_)
    go_simp
    ((refine(aBF 10 _).mono ?_);rintro e wn ⟨rfl,rfl⟩;exact⟨rfl,BW.out.trans (ac.out.mono BW.out.size),.inl ⟨by rw[s.out];decide,by rw[s.out]⟩⟩)
end Rn
namespace Ro
open Bytes8 Blk8 Own8 OwnE Rows2 Ob Ga Gb Gi Ok7 Np Nr Pr8 Rc Rm Rn
open Yp Ye Yg Yh
open Ri (new_ne new_mono)
open Re (aAw aAI)
theorem aHF {w:World}{a:Option Addr}{l:List PR}(h:Prs w a l){s:Nat}(hs: ∀b off,a=some ⟨b,off,none⟩→b≠s)(c:Array Value):Prs (w.setRow s c) a l:=h.keptB (by simp) (fun b off e _=>setRow_other w s b c (hs b off e))
theorem prs_off {w:World}{a:Option Addr}{l:List PR}(h:Prs w a l){g:Nat}(c: ∀b off,a=some ⟨b,off,none⟩→b≠g)(k:Nat)(v:Value):Prs (w.setCell ⟨g,k,none⟩ v) a l:=h.keptB (by simp) (fun b off e _=>Below.heap_setCell w ⟨g,k,none⟩ v b (c b off e))
def ReadR2 (B:Nat)(l:List Int)(a:Nat)(cd:Int)(e:Ending)(w':World):Prop:=
 (cd≠0∧e= .panicked [haltE cd])∨(cd=0∧ ∃A' c',e= .returned (.agg (recL (eNum l a 0) (eNum l a 8) (eNum l a 16) (eK l a) (.slice A' (eN l a) c')).toArray)∧Prs w' A' (prsL (payP l (itA (bodyL l a))) (eN l a))∧NewIn B A')
theorem caught_idle (a:Nat)(w:World):CallsD Tryz.prog 176 #[.pointer (some ⟨a,0,none⟩)] .returning w fun e u' w'=>e= .returned (.tuple #[])∧u'= .returning∧w'=w:=by
 refine callsD_of_wpS Tryz.func176 rfl fun c₀ cs hu=>?_
 apply wpS_seq
 apply wpS_region
 simp[wpOpsS,go_sem,recoverD,hu,Tryz.ntmps176,Exit.thenS]
 refine wpS_of_wp ?_
 go_wp2
 cases c₀
 simp_all[bodyPostS,results,Tryz.results176]
theorem caught_halt (b:Nat)(c y:Int)(a:List PanicEntry)(w:World)(h:Blk w b [.int .i64 y] 3):CallsD Tryz.prog 176 #[.pointer (some ⟨b,0,none⟩)] (.panicking ({v:= .iface 296 (.int .i64 c),recovered:=false}::a)) w fun e u' w'=>e= .returned (.tuple #[])∧u'= .panicking ({v:= .iface 296 (.int .i64 c),recovered:=true}::a)∧w'=w.setCell ⟨b,0,none⟩ (.int .i64 c):=by
 have f:=h.cell (i:=0) rfl
 have g:=h.frozen 0
 have d: ∀w:World,(Instr.typeAssert (.iface 296 (.int .i64 c)) 20 296 true).run Tryz.prog w= .ok (.tuple #[.int .i64 c,.bool true]) w:=fun _=>by kernel_rfl
 refine callsD_of_wpS Tryz.func176 rfl fun c₀ cs hu=>?_
 apply wpS_seq
 apply wpS_region
 simp[wpOpsS,go_sem,recoverD,hu,Tryz.ntmps176,Exit.thenS]
 refine wpS_of_wp ?_
 go_wp2
 cases c₀
 simp_all[bodyPostS,results,Tryz.results176]
attribute [local irreducible] wpList Code.wp
theorem aPb {E:Nat}{h:HD}{A:Option Addr}{n c:Nat}{l:List Int}(a:Nat)(G L:Nat)(w:World)(v:ViewAt w E h A n c l)(s:c≤maxLen)(N:n≤800000)(I:Blk w G [.pointer (some ⟨E,0,none⟩)] 88)(F:Blk w L [.int .u64 (a:Int)] 59):
 Calls Tryz.prog 148 #[.pointer (some ⟨G,0,none⟩),.pointer (some ⟨L,0,none⟩)] w fun e w'=>Below w.heap.size w w'∧ReadR2 w.heap.size l a (rcode h l n a) e w':=by
 have g:=yH ((yB w.heap.size w).alloc (yR _) (.cells zR 64))
 have H:=v.below g.out
 have c2:=(I.alloc (.cells zR 64)).cell (i:=0) rfl
 have Y:=(F.alloc (.cells zR 64)).cell (i:=0) rfl
 have D:=yH (aNv a _ H s N)
 have M:=yH (heap_alloc_new w (.cells zR 64))
 have C:=yH (show w.heap.size<(w.alloc (.cells zR 64)).heap.size by simp)
 unfold ReadR at D
 unfold ReadR2
 generalize eNum l a 0=u at*
 generalize eNum l a 8=r at*
 generalize eNum l a 16=f at*
 generalize eK l a=t at*
 generalize eN l a=o at*
 generalize rcode h l n a=cd at*
 generalize prsL (payP l (itA (bodyL l a))) o=X at*
 clear v H I F
 by_cases x:cd=0
 ·subst x
  go_enter Tryz.func148,Tryz.ntmps148
  go_wp2_with(first
   |(go_at_call 149;(refine D.out.mono ?_);rintro e w3 ⟨b,⟨q,_⟩|⟨_,p,d,rfl,j,k⟩⟩;(exact absurd rfl q);have z:=yH (g.out.trans (b.mono g.out.size));have y:=yH j;have m:=yH k;have J:=yH ((b.block _ C.out).trans M.out);clear b j k)
   |((with_reducible apply aAa (.tmp 2) (.tmp 5));refine wpList_store_row rfl 64 (.tmp 2) (.tmp 5) rfl w.heap.size (recL u r f t (.slice p o d)).toArray rfl rfl 64 zR J.out (by kernel_rfl) rfl (by first|exact aAo _ _ _ _ _ _ _|exact aAo 0 0 0 (fun _=>0) none 0 0) ?_)
   |fail)
  refine bodyPost_ret (v:= .agg (recL u r f t (.slice p o d)).toArray) (by exact results_cell_row Tryz.results148 _ _ w.heap.size 64 _ (0,0) _ rfl (setRow_heap _ w.heap.size _ _ _ (0,0) J.out) Tryz.underlying64 rfl (by kernel_rfl)) rfl ?_
  have R:=below_setRow (B:=w.heap.size) z.out (yR _) (recL u r f t (.slice p o d)).toArray
  exact⟨R,.inr ⟨trivial,p,d,rfl,aHF y.out (new_ne m.out C.out) _,new_mono m.out (Nat.le_of_lt C.out)⟩⟩
 ·go_enter Tryz.func148,Tryz.ntmps148
  go_wp2_with(first
   |(go_at_call 149;(refine D.out.mono ?_);rintro e w3 ⟨b,⟨_,rfl⟩|⟨V,_⟩⟩;rotate_left;(exact absurd V x);have z:=yH (g.out.trans (b.mono g.out.size));clear b)
   |fail)
  exact⟨rfl,z.out,.inl ⟨x,rfl⟩⟩
def AskR (B:Nat)(l:List Int)(a:Nat)(cd:Int)(e:Ending)(w':World):Prop:=
 (cd≠0∧e= .returned (.tuple #[.agg zR,.int .i64 cd]))∨(cd=0∧ ∃A' c',e= .returned (.tuple #[.agg (recL (eNum l a 0) (eNum l a 8) (eNum l a 16) (eK l a) (.slice A' (eN l a) c')).toArray,.int .i64 0])∧Prs w' A' (prsL (payP l (itA (bodyL l a))) (eN l a))∧NewIn B A')
theorem asked_any {Y:Nat}{h:HD}{A:Option Addr}{n c:Nat}{l:List Int}(a:Nat)(E R:Nat)(w:World)(v:ViewAt w Y h A n c l)(C:c≤maxLen)(h8:n≤800000)(L:Blk w E [.pointer (some ⟨Y,0,none⟩)] 88)(D:Blk w R [.int .u64 (a:Int)] 59):
 Calls Tryz.prog 147 #[.func (.func 148) #[] #[.pointer (some ⟨E,0,none⟩),.pointer (some ⟨R,0,none⟩)]] w fun e w'=>Below w.heap.size w w'∧AskR w.heap.size l a (rcode h l n a) e w':=by
 have V:=yH ((yB w.heap.size w).alloc (yR _) (.cells zR 64))
 have b2:=yH (V.out.alloc V.out.size (.cells #[.int .i64 0] 3))
 have v2:=v.below b2.out
 have N:=yH (aPb a E R _ v2 C h8 (L.below b2.out L.lt) (D.below b2.out D.lt))
 have S1:(w.alloc (.cells zR 64)).heap.size=w.heap.size+1:=by simp only[World.alloc,Array.size_push]
 have q:((w.alloc (.cells zR 64)).alloc (.cells #[.int .i64 0] 3)).heap.size=w.heap.size+1+1:=by simp only[World.alloc,Array.size_push]
 have X:=yH ((Below.heap_alloc (w.alloc (.cells zR 64)) (.cells #[.int .i64 0] 3) w.heap.size (by rw[S1];omega)).trans (heap_alloc_new w (.cells zR 64)))
 have Z:=yH (Blk.new_at (w.alloc (.cells zR 64)) [.int .i64 0] 3 _ S1)
 have aa: ∀(fn:Fn) (first cap:Array Value) (w:World),(Instr.makeFunc fn first cap).run Tryz.prog w= .ok (.func fn first cap) w:=fun _ _ _ _=>rfl
 unfold ReadR2 at N
 unfold AskR
 generalize eNum l a 0=x at*
 generalize eNum l a 8=t at*
 generalize eNum l a 16=g at*
 generalize eK l a=u at*
 generalize eN l a=r at*
 generalize rcode h l n a=cd at*
 generalize prsL (payP l (itA (bodyL l a))) r=pr at*
 clear v v2 L D
 by_cases F:cd=0
 ·subst F
  go_enter_defers Tryz.func147,Tryz.ntmps147
  go_wp2_with(first
   |(go_at_call 148;(refine N.out.mono ?_);rintro e w3 ⟨b,⟨z,_⟩|⟨_,k,d,rfl,m,o⟩⟩;(exact absurd rfl z);have H:=yH (b2.out.trans (b.mono b2.out.size));have G:=yH m;have j:=yH (show NewIn (w.heap.size+1+1) k from q▸o);have y:=yH ((b.block _ (by rw[q];omega)).trans X.out);have s:=yH (Z.out.below b (by rw[q];omega));clear b m o)
   |((with_reducible apply aAa (.tmp 2) (.tmp 6));refine wpList_store_row rfl 64 (.tmp 2) (.tmp 6) rfl w.heap.size (recL x t g u (.slice k r d)).toArray rfl rfl 64 zR y.out (by kernel_rfl) rfl (by first|exact aAo _ _ _ _ _ _ _|exact aAo 0 0 0 (fun _=>0) none 0 0) ?_;have M:=yH (show Blk (w3.setRow w.heap.size (recL x t g u (.slice k r d)).toArray) (w.heap.size+1) [.int .i64 0] 3 from(setRow_other w3 w.heap.size (w.heap.size+1) _ (Nat.succ_ne_self _)).trans s.out);have c4:=M.out.cell (i:=0) rfl;have z4:=M.out.frozen 0)
   |fail)
  refine leaves_cons (f:=176) (args:= #[.pointer (some ⟨w.heap.size+1,0,none⟩)]) (by simp) (by simp[go_sem]) ?_
  refine(caught_idle _ _).mono ?_
  rintro e u' J ⟨rfl,rfl,rfl⟩
  have I:=(below_setRow (B:=w.heap.size) H.out (yR _) (recL x t g u (.slice k r d)).toArray).setCell (p:=⟨w.heap.size+1,0,none⟩) (Nat.le_succ _) (.int .i64 0)
  exact⟨.tuple #[.agg (recL x t g u (.slice k r d)).toArray,.int .i64 0],(by exact aAw Tryz.results147 _ _ w.heap.size (w.heap.size+1) 64 _ (0,0) _ _ rfl rfl ((Below.heap_setCell _ _ _ _ (Nat.succ_ne_self _).symm).trans (setRow_heap _ w.heap.size _ _ _ (0,0) y.out)) Tryz.underlying64 rfl (by kernel_rfl) (aAI _ _ _ (M.out.set_ 0 _))),I,.inr ⟨trivial,k,d,rfl,prs_off (aHF G.out (new_ne j.out (by omega)) _) (new_ne j.out (by omega)) _ _,new_mono j.out (by omega)⟩⟩
 ·go_enter_defers Tryz.func147,Tryz.ntmps147
  go_wp2_with(first
   |(go_at_call 148;(refine N.out.mono ?_);rintro e w3 ⟨b,⟨_,rfl⟩|⟨he,_⟩⟩;rotate_left;(exact absurd he F);have H:=yH (b2.out.trans (b.mono b2.out.size));have y:=yH ((b.block _ (by rw[q];omega)).trans X.out);have s:=yH (Z.out.below b (by rw[q];omega));clear b)
   |fail)
  refine leaves_cons (f:=176) (args:= #[.pointer (some ⟨w.heap.size+1,0,none⟩)]) (by simp) (by simp[go_sem]) ?_
  refine(caught_halt _ cd 0 [] _ s.out).mono ?_
  rintro e u' J ⟨rfl,rfl,rfl⟩
  have I:=H.out.setCell (p:=⟨w.heap.size+1,0,none⟩) (Nat.le_succ _) (.int .i64 cd)
  exact⟨.tuple #[.agg zR,.int .i64 cd],(by exact aAw Tryz.results147 _ _ w.heap.size (w.heap.size+1) 64 _ (0,0) _ _ rfl rfl ((Below.heap_setCell _ _ _ _ (Nat.succ_ne_self _).symm).trans y.out) Tryz.underlying64 rfl (by kernel_rfl) (aAI _ _ _ (s.out.set_ 0 _))),I,.inl ⟨F,rfl⟩⟩
theorem aP4 {d:Nat}{h:HD}{A:Option Addr}{n c:Nat}{l:List Int}(a:Nat)(w:World)(v:ViewAt w d h A n c l)(x:c≤maxLen)(R:n≤800000):
 Calls Tryz.prog 118 #[.pointer (some ⟨d,0,none⟩),.int .u64 (a:Int)] w fun e w'=>Below w.heap.size w w'∧AskR w.heap.size l a (rcode h l n a) e w':=by
 have H:=yH ((yB w.heap.size w).alloc (yR _) (.cells #[.pointer (some ⟨d,0,none⟩)] 88))
 have b2:=yH (H.out.alloc H.out.size (.cells #[.int .u64 (a:Int)] 59))
 have j:=yH (b2.out.alloc b2.out.size (.cells zR 64))
 have I:=v.below j.out
 have X:(w.alloc (.cells #[.pointer (some ⟨d,0,none⟩)] 88)).heap.size=w.heap.size+1:=by simp only[World.alloc,Array.size_push]
 have N:((w.alloc (.cells #[.pointer (some ⟨d,0,none⟩)] 88)).alloc (.cells #[.int .u64 (a:Int)] 59)).heap.size=w.heap.size+1+1:=by simp only[World.alloc,Array.size_push]
 have E:(((w.alloc (.cells #[.pointer (some ⟨d,0,none⟩)] 88)).alloc (.cells #[.int .u64 (a:Int)] 59)).alloc (.cells zR 64)).heap.size=w.heap.size+1+1+1:=by simp only[World.alloc,Array.size_push]
 have L:=((Blk.new w [.pointer (some ⟨d,0,none⟩)] 88).alloc (.cells #[.int .u64 (a:Int)] 59)).alloc (.cells zR 64)
 have J:=(Blk.new_at (w.alloc (.cells #[.pointer (some ⟨d,0,none⟩)] 88)) [.int .u64 (a:Int)] 59 _ X).alloc (.cells zR 64)
 have F:=yH (asked_any a w.heap.size (w.heap.size+1) _ I x R L J)
 have M:=yH (show(((w.alloc (.cells #[.pointer (some ⟨d,0,none⟩)] 88)).alloc (.cells #[.int .u64 (a:Int)] 59)).alloc (.cells zR 64)).heap[w.heap.size+1+1]? =some (.cells zR 64 (0,0))from N▸heap_alloc_new _ (.cells zR 64))
 have V: ∀(fn:Fn) (first cap:Array Value) (w:World),(Instr.makeFunc fn first cap).run Tryz.prog w= .ok (.func fn first cap) w:=fun _ _ _ _=>rfl
 unfold AskR at F⊢
 generalize eNum l a 0=z at*
 generalize eNum l a 8=u at*
 generalize eNum l a 16=i at*
 generalize eK l a=y at*
 generalize eN l a=r at*
 generalize rcode h l n a=cd at*
 generalize prsL (payP l (itA (bodyL l a))) r=Z at*
 clear v I L J
 by_cases C:cd=0
 ·subst C
  go_enter Tryz.func118,Tryz.ntmps118
  go_wp2_with(first
   |(go_at_call 147;(refine F.out.mono ?_);rintro e w4 ⟨b,⟨t,_⟩|⟨_,q,f,rfl,k,m⟩⟩;(exact absurd rfl t);have G:=yH (j.out.trans (b.mono j.out.size));have D:=yH k;have p:=yH (show NewIn (w.heap.size+1+1+1) q from E▸m);have o:=yH ((b.block _ (by rw[E];omega)).trans M.out);clear b k m)
   |((with_reducible apply aAa (.tmp 4) (.tmp 8));refine wpList_store_row rfl 64 (.tmp 4) (.tmp 8) rfl (w.heap.size+1+1) (recL z u i y (.slice q r f)).toArray rfl rfl 64 zR o.out (by kernel_rfl) rfl (by first|exact aAo _ _ _ _ _ _ _|exact aAo 0 0 0 (fun _=>0) none 0 0) ?_)
   |fail)
  refine bodyPost_ret (v:= .tuple #[.agg (recL z u i y (.slice q r f)).toArray,.int .i64 0]) (by exact aAq Tryz.results118 _ _ (w.heap.size+1+1) 64 _ (0,0) _ _ rfl rfl (setRow_heap _ (w.heap.size+1+1) _ _ _ (0,0) o.out) Tryz.underlying64 rfl (by kernel_rfl)) rfl ?_
  have s:=below_setRow (B:=w.heap.size) (g:=w.heap.size+1+1) G.out (by omega) (recL z u i y (.slice q r f)).toArray
  exact⟨s,.inr ⟨trivial,q,f,rfl,aHF D.out (new_ne p.out (by omega)) _,new_mono p.out (by omega)⟩⟩
 ·go_enter Tryz.func118,Tryz.ntmps118
  go_wp2_with(first
   |(go_at_call 147;(refine F.out.mono ?_);rintro e w4 ⟨b,⟨_,rfl⟩|⟨Y,_⟩⟩;rotate_left;(exact absurd Y C);have G:=yH (j.out.trans (b.mono j.out.size));have o:=yH ((b.block _ (by rw[E];omega)).trans M.out);clear b)
   |((with_reducible apply aAa (.tmp 4) (.tmp 8));refine wpList_store_row rfl 64 (.tmp 4) (.tmp 8) rfl (w.heap.size+1+1) zR rfl rfl 64 zR o.out (by kernel_rfl) rfl (by first|exact aAo _ _ _ _ _ _ _|exact aAo 0 0 0 (fun _=>0) none 0 0) ?_)
   |fail)
  refine bodyPost_ret (v:= .tuple #[.agg zR,.int .i64 cd]) (by exact aAq Tryz.results118 _ _ (w.heap.size+1+1) 64 _ (0,0) _ _ rfl rfl (setRow_heap _ (w.heap.size+1+1) _ _ _ (0,0) o.out) Tryz.underlying64 rfl (by kernel_rfl)) rfl ?_
  have s:=below_setRow (B:=w.heap.size) (g:=w.heap.size+1+1) G.out (by omega) zR
  exact⟨s,.inl ⟨C,rfl⟩⟩
end Ro
namespace Rq
attribute [local irreducible] wpList Code.wp
end Rq
end Go.Proofs.YteaikbodkgjkdaaGreat
