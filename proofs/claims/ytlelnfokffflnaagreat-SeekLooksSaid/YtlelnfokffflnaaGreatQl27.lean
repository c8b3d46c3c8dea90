/-
  Texts beneath the proof.
-/
import Derived.Test.YtlelnfokffflnaaGreatQl22
set_option linter.unusedVariables false
set_option linter.unusedSimpArgs false
set_option maxRecDepth 100000
set_option maxHeartbeats 40000000
open Go.ChangeShapes Go.WideShapes Go.ChangeAt Go.RowKit
namespace Go.Proofs.YtlelnfokffflnaaGreat
namespace Ni
open Bytes8 Blk8 Own8 OwnM OwnA OwnE Rows2 Ob Od Ga Ma Kf Mb Mc Md Mf Mg Mh Fa Fb Fc Sg Dc Yc Yd Yk Gb Na Nb Nc Nd Nee Nf Ng Nh Nk Nl Nm No Ya Pr8 Ps8 Pl8 Pr2
theorem aGt: ∀(l:List PR),codeL l=0→ ∀q∈l,flawI q.1 q.2=0
 | [],_,q,hq=>by cases hq
 |p::r,h,q,hq=>by
  unfold codeL at h
  split at h
  ·next h0=>
   rcases List.mem_cons.1 hq with rfl|hq
   ·exact h0
   ·exact aGt r h q hq
  ·next h0=>exact absurd h h0
theorem aFA {b:List PR}(h:listE b=0):(listL b).length≤16∧ ∀q∈listL b,q∈b∧flawI q.1 q.2=0:=by
 have d:listL b=sortP (ded b):=if_pos h
 unfold listE at h
 split at h
 ·cases h
 ·split at h
  ·next hc=>
   split at h
   ·next h16=>
    rw[d,aBw]
    refine⟨h16,fun q hq=>?_⟩
    have c:=(aC0 b q).1 ((aBb _ _).1 hq)
    exact⟨c,aGt _ hc q c⟩
   ·cases h
  ·next hc=>exact absurd h hc
theorem aGu {w:World}{b:Array Oper}{rest:List Oper}{o:Oper}{a:Act}{Q:Exit→Act→World→Prop}(k:o.guard=none)(x:Operand)(j:o.op= .convert 9 24 x)(l:List Int)(t:AllB l)(n:Nat)(q:l.length=n)(g:Nat)(u:w.heap.size=g)(p:a.eval x= .string (T l))
 (h: ∀c w',Bytes w' (some ⟨g,0,none⟩) l→Grew w w'→g<w'.heap.size→wpList Tryz.prog b Q rest (a.put o.dst (.slice (some ⟨g,0,none⟩) n c)) w'):wpList Tryz.prog b Q (o::rest) a w:=
 wpList_plain k fun K hK=>by
  subst q
  subst u
  have d:=run_bytes_of_string w 9 24 5 (T l) Tryz.underlying9 Tryz.underlying24 Tryz.underlying5
  obtain⟨cf,y,f⟩:=aBL l t
  obtain⟨m,r,s⟩:=f w
  have i:w.heap.size<(y w).heap.size:=by
   rw[m]at d
   injection d with _ d
   rw[d]
   simp
  unfold Oper.wp execOp
  simp only[j,resolve,Sem.run_bind,Sem.run_pure,Result.andThen_ok,p,m]
  exact hK _ _ (h _ _ (r _ rfl) s i)
abbrev idE (K:Nat→Int):List Value:=[.int .u8 (K 0),.int .u8 (K 1),.int .u8 (K 2),.int .u8 (K 3),.int .u8 (K 4),.int .u8 (K 5),.int .u8 (K 6),.int .u8 (K 7),.int .u8 (K 8),.int .u8 (K 9),.int .u8 (K 10),.int .u8 (K 11),.int .u8 (K 12),.int .u8 (K 13),.int .u8 (K 14),.int .u8 (K 15)]
theorem aGv {w:World}{g:Nat}{T:TypeId}{K:Nat→Int}(h:Blk w g (idE K) T):w.rangeAt g 0 (idE K):=fun j v hj=>by rw[Nat.zero_add];exact h.cell hj
theorem aGw {w:World}{B n c f:Nat}{l:List (Kn×Value)}(h:OwnK w B (some ⟨f,0,none⟩) n c l)(x:Nat)(s:x<n):w.there f (x*5) 5:=fun j hj=>by
 have g:=h.len
 obtain⟨b,e,_,_,m⟩:=OwnE.cell h (i:=x*5+j) (by rw[g];omega)
 injection e with e
 injection e with e
 subst e
 refine⟨?_,?_⟩
 ·rw[m,List.getElem?_eq_getElem (by rw[g];omega)]
  rfl
 ·rcases h.2.2 with⟨d,o⟩|⟨k,q,r,d,o,p,t⟩
  ·cases d
  ·injection d with e1 e2 e3
   injection e1 with e1
   injection e1 with e1
   subst e1
   simp[World.frozen?,p]
theorem aDH {w w':World}{g:Nat}{l:List Value}{T:TypeId}(e:w'.heap[g]? =w.heap[g]?)(h:Blk w g l T):Blk w' g l T:=e.trans h
theorem aKV {w:World}{g:Nat}{K:Nat→Int}{T:TypeId}(h:Blk w g ((idL K).map (Value.int .u8)) T):Blk w g (idE K) T:=h
theorem aIC {w:World}{g:Nat}{T:TypeId}{m:Mk}{S:Sl}(h:Blk w g (Mk.cells m S) T)(o n:Nat)(b:o+n≤147):w.there g o n:=fun j hj=>⟨by rw[h.cell (Mk.get _ _ (o+j) (by omega))];rfl,h.frozen _⟩
theorem aBd {w w2:World}{c:Array Oper}{rest:List Oper}{d:Oper}{a:Act}{Q:Exit→Act→World→Prop}(f:d.guard=none)(g:TypeId)(x y:Operand)(n:d.op= .store g x y)
 (b o:Nat)(cells:Array Value)(i:a.eval x= .pointer (some ⟨b,o,none⟩))(j:a.eval y= .agg cells)(m:w.there b o cells.size)(k:(Tryz.prog.info? g).map (·.size)=some cells.size)(l:cells.all (·.oneCell')=true)
 (e:w2=w.setCells b o cells.toList)(h:wpList Tryz.prog c Q rest (a.put d.dst undef) w2):wpList Tryz.prog c Q (d::rest) a w:=by
 subst e
 exact wpList_store_mid f g x y n b o cells i j m k l h
theorem aKW (K:Nat→Int):(idE K).toArray.all (·.oneCell')=true:=by simp[Value.oneCell']
theorem knI:(Tryz.prog.info? 173).map (·.size)=some 5:=by kernel_rfl
theorem aB9 {w:World}{c:Array Oper}{o:Oper}{a:Act}{K:Act→World→Prop}{Q:Exit→Act→World→Prop}{F:Prop}(d:o.guard=none)(f:TypeId)(x y:Operand)(n:o.op= .store f x y)
 (b of:Nat)(cells:Array Value)(g:a.eval x= .pointer (some ⟨b,of,none⟩))(i:a.eval y= .agg cells)
 (m:w.there b of cells.size)(k:(Tryz.prog.info? f).map (·.size)=some cells.size)(l:cells.all (·.oneCell')=true)
 (h:K (a.put o.dst undef) (w.setCells b of cells.toList)):if Region.wanted o (yielded c a.tmps)=true then Oper.wp Tryz.prog o a w K Q else F:=by
 have j:Region.wanted o (yielded c a.tmps)=true:=by simp[Region.wanted,d]
 rw[if_pos j]
 exact wp_store_mid f x y n b of cells g i m k l h
theorem kn_at {l:List (Kn×Value)}{m:Mk}(e:l.map Prod.fst=m.datas)(i:Nat)(b:i<l.length):l[i].1=Mk.kn m i:=by
 unfold Mk.kn
 rw[←e,List.getD_eq_getElem?_getD,List.getElem?_map,List.getElem?_eq_getElem b]
 rfl
theorem dataOf_text (m:Mk)(b s:List Int)(h:Inv m)(f:AllB b)(d:b.length≤64)(hs:AllB s)(c:s.length≤400):(Mk.kn (Mk.dataOf m b s).2 (Mk.dataOf m b s).1).text=s:=by
 unfold Mk.dataOf
 cases e:idxK m.datas s with
 |some i=>
  dsimp only
  unfold idxK at e
  obtain⟨k,j,_⟩:=List.findIdx?_eq_some_iff_getElem.1 e
  unfold Mk.kn
  rw[List.getD_eq_getElem?_getD,List.getElem?_eq_getElem k]
  simpa using j
 |none=>
  dsimp only
  obtain⟨_,_,_,g,_⟩:=aCb h b s f d hs c
  unfold Mk.kn
  rw[g,List.getD_eq_getElem?_getD,List.getElem?_append_right (yR _),Nat.sub_self]
  rfl
structure L1 (B g b2:Nat)(p:Pl)(m:Mk)(L:List PR)(k:Nat)(w2 wr:World)(q:Pl)(A2:Option Addr)(c2:Nat)(A3:Option Addr)(c3:Nat)(xs:List Value):Prop where
 at_:At wr B g q (Mk.dataAll m (L.take k)).1
 low:Low wr b2 q (Mk.dataAll m (L.take k)).1
 path:Path g p w2 q wr
 who:Side 3 1 wr g q b2 A2 k c2 (iv (Mk.dataAll m (L.take k)).2)
 pay_:Side 24 1 wr g q b2 A3 k c3 xs
 pays:Pays wr g q A3 xs ((L.take k).map fun q=>pay q.1 q.2)
 apart: ∀j,ownB A2=some j→ownB A3≠some j
attribute [local irreducible] Mk.cells wpList Code.wp
variable {B g : Nat} {p : Pl} {m : Mk}
def Appended (B g:Nat)(p:Pl)(m:Mk)(raw:List PR)(real mono:Int)(K:Nat→Int)(w:World)(e:Ending)(w':World):Prop:=
 e= .returned (.tuple #[.int .u64 (if Mk.acode m raw real mono K=0 then m.h.N 9+1 else 0),.int .i64 (Mk.acode m raw real mono K)])∧Stp B g p (Mk.after m raw real mono K) w w'
theorem aCj {b:List PR}{real mono x:Int}{K:Nat→Int}{w w':World}(d:Mk.acode m b real mono K=x)(c:x≠0)(h:Stp B g p m w w'):Appended B g p m b real mono K w (.returned (.tuple #[.int .u64 0,.int .i64 x])) w':=by
 unfold Appended Mk.after
 rw[d,if_neg c,if_neg c]
 exact⟨rfl,h⟩
theorem aEW (Ar:Option Addr)(aG:List PR)(nr cr:Nat)(real mono:Int)(K:Nat→Int)(w:World)(h:At w B g p m)(I:Inv m)(hP:Prs w Ar aG)(hL:aG.length=nr)(hn:nr≤100000)(hb:m.b.length≤32768)(jk:m.C.most≤1000000)(d:IdOk K)(hr:0≤real∧real≤18446744073709551615)(hm:0≤mono∧mono≤18446744073709551615)(h9:0≤m.h.N 9∧m.h.N 9≤18446744073709551615):
 Calls Tryz.prog 33 #[.pointer (some ⟨g,0,none⟩),.slice Ar nr cr,.int .u64 real,.int .u64 mono,idV K] w (Appended B g p m aG real mono K w):=by
 have HA:=yH h
 have HI:=yH I
 have HK:=yH d
 have b0:=yH ((Below.refl w.heap.size w).alloc (yR _) (idC 37 K))
 have R0:=yH (show Blk (w.alloc (idC 37 K)) w.heap.size ((idL K).map (Value.int .u8)) 37 from Blk.new w _ _)
 have eI:=yH (hP.below b0.out)
 have cB:=yH hP.1
 clear h I hP
 go_enter Tryz.func33,Tryz.ntmps33
 go_upto_region 1 with fail
 generalize w.alloc (idC 37 K)=w0 at*
 have dd:=yH (aGk Ar aG nr cr w0 eI.out hL hn)
 unfold ListedN at dd
 obtain⟨n1,gk⟩: ∃x,(listL aG).length=x:=⟨_,rfl⟩
 have cP:=yH gk
 obtain⟨lx,gO⟩: ∃x,listE aG=x:=⟨_,rfl⟩
 have bR:=yH gO
 rw[gk,gO]at dd
 clear gk gO
 go_upto_region 2 with(first|(go_at_call 75;(refine dd.out.mono ?_);rintro e w1 ⟨A1,c1,rfl,iy,gS,hJ⟩;have en:=yH iy;have fc:=yH hJ;have aL:=yH (b0.out.trans (gS.mono b0.out.size));have a5:=yH (At.below HA.out aL.out);have R1:=yH (R0.out.below gS R0.out.lt);clear iy gS hJ)|fail)
 by_cases cV:lx=0
 ·subst cV
  obtain⟨fw,fR⟩:=aFA bR.out
  rw[cP.out]at fw
  by_cases ht:m.h.N 9=18446744073709551615
  ·have cZ:=yH (aDE B g p.bb p.cb p.S m w1 a5.out.st)
   rw[ht]at cZ
   go_wp2_with(first|(go_at_call 66;(refine cZ.out.mono ?_);rintro e w2 ⟨rfl,rfl⟩)|fail)
   go_ret2
   exact aCj (by unfold Mk.acode;rw[bR.out,if_neg (by simp),if_pos ht]) (by decide) ⟨p,a5.out,Path.of_below aL.out⟩
  ·have cZ:=yH (aDE B g p.bb p.cb p.S m w1 a5.out.st)
   have d9:(m.h.N 9==18446744073709551615)=false:=by simpa using ht
   have gM:=yH (aMV w1 a5.out HI.out (by omega))
   unfold Copied at gM
   obtain⟨s9,e8⟩: ∃x,m.h.N 9=x:=⟨_,rfl⟩
   rw[e8]at cZ d9 ht h9
   have aE:=yH e8
   clear e8
   have HT:=yH ht
   clear ht
   go_upto_region 10 with(first
    |(go_at_call 66;(refine cZ.out.mono ?_);rintro e w2 ⟨rfl,rfl⟩)
    |(go_at_call 76;(refine gM.out.mono ?_);rintro e w2 ⟨po,rfl,iV,iC⟩;have cM:=yH iV;have aw:=yH iC;clear iV iC)
    |fail)
   have f9:=aL.out.size
   have bq: ∀k,p.foot g k→k<w.heap.size:=fun k hk=>(At.lt HA.out k hk).2
   obtain⟨L,eS⟩: ∃x,x=listL aG:=⟨_,rfl⟩
   rw[←eS]at cP fR en
   have cH:=yH eS
   have dK:=yH eS.symm
   clear eS gM cZ dd
   have bY:=yH fun(q:PR) (hq:q∈L)=>show AllB q.1∧AllB q.2∧q.1.length≤64∧q.2.length≤256 from by
    obtain⟨A,Z⟩:=fR q hq
    have h3:=cB.out q A
    have h4:=aBi Z
    exact⟨h3.1,h3.2.1,h4.1,h4.2⟩
   clear fR
   have fP:=yH fun(wr:World) (q:Pl) (hq:Path g p w2 q wr)=>show Prs wr A1 L from by
    by_cases h0:0<n1
    ·exact en.out.keptB (Nat.le_trans aw.out.size hq.kept.size) fun b hC e hb=>(hq.kept.block b (yL hb aw.out.size) (fun hf=>by have:=bq b hf;have:=fc.out b hC e h0;have:=b0.out.size;omega)).trans (aw.out.block b hb)
    ·rw[List.eq_nil_of_length_eq_zero (show L.length=0 by rw[cP.out];omega)]
     exact Prs.nil _ _
   have dH:=yH (At.below a5.out aw.out)
   go_wp2
   go_loopw [16,17,18] (fun a16 a17 a18 wr=> ∃(k:Nat) (q:Pl) (A2:Option Addr) (c2:Nat) (A3:Option Addr) (c3:Nat) (xs:List Value),k≤n1∧a18= .int .i64 (k:Int)∧a16= .slice A2 k c2∧a17= .slice A3 k c3∧Hid (L1 B g w2.heap.size p m L k w2 wr q A2 c2 A3 c3 xs)) (fun _ _ i _=>n1-(intOf i).toNat)
   case atStart=>exact⟨0,p,none,0,none,0,[],Nat.zero_le _,rfl,rfl,rfl,yH ⟨dH.out,At.low dH.out (yR _),Path.refl _ _ _,⟨OwnE.nil _ _ (yR _),fun _ h=>by cases h⟩,⟨OwnE.nil _ _ (yR _),fun _ h=>by cases h⟩,⟨rfl,fun r hr=>absurd hr (by simp)⟩,fun _ h=>by cases h⟩⟩
   case round=>
    obtain⟨k,q,A2,c2,A3,c3,xs,hk,rfl,rfl,rfl,eY⟩:=hrel
    by_cases bt:k<n1
    ·have cW:k<L.length:=by rw[cP.out];exact bt
     have fi:k<16:=by omega
     have hD:=aA0 m L k cW
     obtain⟨i1,i2,i3,i4,i5⟩:=aAs HI.out L bY.out k (Nat.le_of_lt cW)
     obtain⟨q1,q2,q3,Y⟩:=bY.out L[k] (List.getElem_mem cW)
     obtain⟨b,hC,jr,cU,p0,p1⟩:=(fP.out wr q eY.out.path).2 k cW
     have gi:(L.take (k+1)).map (fun q=>pay q.1 q.2)=(L.take k).map (fun q=>pay q.1 q.2)++ [pay L[k].1 L[k].2]:=by rw[List.take_succ_eq_append_getElem cW,List.map_append];rfl
     obtain⟨aP,aj,aI,ai,bx,au,eD⟩:=eY.out
     rw[show L.getD k nil2=L[k]by rw[List.getD_eq_getElem?_getD,List.getElem?_eq_getElem cW];rfl]at p0 p1
     subst jr
     generalize L[k]=pq at*
     obtain⟨nm,v⟩:=pq
     dsimp only at q1 q2 q3 Y p0 p1 gi
     rcases hdk:Mk.dataAll m (L.take k)with⟨dk,who⟩
     rw[hdk]at hD i1 i2 i3 i4 i5 aP aj ai
     dsimp only at i1 i2 i3 i4 i5 aP aj ai
     have eL:=yH (aMP nm v wr aP i1 q1 q2 ⟨q3,Y⟩ (by omega))
     have iP:(pay nm v).length≤400:=by rw[Fa.pay_len];omega
     have gy:=aBr q1 q2
     obtain⟨j1,j2,j3,j4⟩:=aC1 i1 nm (pay nm v) q1 q3 gy iP
     have eG:=dataOf_text dk nm (pay nm v) i1 q1 q3 gy iP
     unfold dataStep at hD
     dsimp only at hD
     generalize pay nm v=s at*
     rcases hdo:Mk.dataOf dk nm s with⟨j,m3⟩
     rw[hdo]at hD j1 j2 j3 j4 eG eL
     dsimp only at hD j1 j2 j3 j4 eG eL
     have HD:=yH hD
     have iM:=yH gi
     have fJ:=yH aP
     have dQ:=yH aj
     have ct:=yH aI
     have dZ:=yH ai
     have df:=yH bx
     have cG:=yH au
     have c0:=yH eD
     have iH:=yH eG
     have d7:=yH i5
     have gN:=yH j4
     have cs:=yH i3
     clear hD gi aP aj aI ai bx au eD hdo hdk eG i5 j4 i3
     go_upto_region 14 with(first
      |(go_at_call 77;(refine eL.out.mono ?_);rintro e w3 ⟨rfl,q3,hZ,jc,im,iR⟩;have aY:=yH hZ;have er:=yH jc;have jI:=yH im;have jG:=yH iR;clear hZ jc im iR)
      |fail)
     have g0:=yH (dZ.out.path er.out)
     have cl:=yH (df.out.path er.out)
     have eC:=yH (cG.out.path er.out)
     have gE:=yH (Low.path dQ.out fJ.out er.out jI.out jG.out gN.out.main)
     have cy:=yH (ct.out.trans er.out)
     have g8:j<q3.dl.length:=by have e:=congrArg List.length aY.out.dm;rw[List.length_map]at e;omega
     obtain⟨H,ab,jM,d0,_,_,_,_⟩:=aBp aY.out.dr j g8
     have fG:=At.cd aY.out
     obtain⟨aO,ce⟩: ∃x,q3.nd=x:=⟨_,rfl⟩
     have HNd:=yH ce
     rw[ab,ce]at fG
     clear ce
     rw[kn_at aY.out.dm j g8,iH.out]at d0
     have bT:j<aO:=by rw[←HNd.out,←aAy aY.out.dr];exact g8
     have aA:aO≤100000:=by
      have e:=congrArg List.length aY.out.dm
      rw[List.length_map,aAy aY.out.dr,HNd.out]at e
      have:=j1.dn
      omega
     obtain⟨ns,db⟩: ∃x,s.length=x:=⟨_,rfl⟩
     have iU:=yH db
     have jQ:=cy.out.kept.size
     clear db
     go_upto_region 15 with(first
      |(refine aGu rfl (.tmp 62) rfl s gy ns iU.out w3.heap.size rfl rfl ?_;intro c4 w4 fD fu fy;have fC:=yH fy;have iw:=yH fD;have aZ:=yH fu.below;clear fD fu fy)
      |(at_builtin;(refine aAe rowE rfl (.tmp 54) (.tmp 64) rfl w2.heap.size A3 k c3 xs rfl (OwnE.alloc ((cl.out.below aZ.out).own) _) ⟨w4.heap.size,0,none⟩ 1 1 [.slice (some ⟨w3.heap.size,0,none⟩) ns c4] rfl rfl (Blk.news (Blk.new w4 _ _)) (by simp[Value.oneCell']) (by omega) (by omega) (by unfold maxLen;omega) ?_);intro A5 c5 w5 iJ fq ft;have iD:=yH iJ;have bf:=yH fq;have eH:=yH ft;clear iJ fq ft)
      |fail)
     have bo:=(Below.refl w4.heap.size w4).alloc (yR _) (.cells #[.slice (some ⟨w3.heap.size,0,none⟩) ns c4] 24)
     have cn:=aZ.out.trans (bo.mono aZ.out.size)
     have j7:=cn.size
     have cK:=At.below aY.out cn
     have eh:=Low.path gE.out aY.out (Path.of_below cn) (fun x hx=> .inl hx) rfl rfl
     have bc:=g0.out.below cn
     have bm:=cl.out.below cn
     have cD:=eC.out.below cn
     have fp:=At.lt aY.out
     have gm: ∀k',ownB A3=some k'→w2.heap.size≤k'∧ ¬q3.foot g k':=fun k' A=>⟨(OwnE.ltB bm.own k' A).1,bm.off k' A⟩
     obtain⟨fL,cu⟩:=At.offA cK eh (KeptF.grow _ bf.out) gm
     have HA5:=yH fL
     have HLow5:=yH cu
     have ah:=yH (Path.side (cy.out.below cn) (KeptF.grow _ bf.out) fun k' A=>(gm k' A).1)
     have cf:=yH (show Side 3 1 w5 g q3 w2.heap.size A2 k c2 (iv who)from⟨OwnE.keptG bc.own bf.out (c0.out),bc.off⟩)
     have ck:=yH (show Side 24 1 w5 g q3 w2.heap.size A5 (k+1) c5 (xs++ [.slice (some ⟨w3.heap.size,0,none⟩) ns c4])from⟨iD.out,fun k' A Z=>by
      rcases eH.out with h3|h3
      ·exact bm.off k' (h3▸A) Z
      ·rw[h3]at A
       injection A with A
       have:=(fp k' Z).2
       omega⟩)
     have bi:=yH (Pays.push cD bf.out eH.out w3.heap.size c4 s ((aBc iw.out bo.size (bo.block _ fC.out))) (by have:=fC.out;have:=bo.size;omega) (fun Z=>by have:=(fp _ Z).2;omega) (fun Z=>by have:=(OwnE.ltB cl.out.own _ Z).2;omega))
     rw[iU.out]at bi
     have iE:=yH (show ∀j',ownB A2=some j'→ownB A5≠some j' from fun j' A Z=>by
      rcases eH.out with h3|h3
      ·exact c0.out j' A (h3▸Z)
      ·rw[h3]at Z
       injection Z with Z
       have:=(OwnE.ltB bc.own j' A).2
       omega)
     have jX:=bf.out.size
     clear fL cu cK eh bc bm cD iD eH bf gm bo fG d0 ab
     obtain⟨f,hf⟩: ∃f:Nat→Nat,f=fun i=>(Mk.kn m3 i).at_:=⟨_,rfl⟩
     rw[←hf]at HD
     have HF:=yH fun i=>congrFun hf i
     clear hf
     have bs:who.length=k:=i2
     have fQ:=yH fun(i:Nat) (hi:i<m3.datas.length)=>show f i≤100000 from by
      rw[HF.out]
      have hk:Mk.kn m3 i=m3.datas[i]:=by unfold Mk.kn;rw[List.getD_eq_getElem?_getD,List.getElem?_eq_getElem hi];rfl
      have:=(j1.dat _ (List.getElem_mem hi)).1
      rw[hk]
      omega
     have dE:=yH fun(wr':World) (hb':Below w5.heap.size w5 wr') (i:Nat) (hi:i<q3.dl.length)=>show ∃b,q3.D=some ⟨b,0,none⟩∧wr'.cell? ⟨b,i*5+1,none⟩=some (.int .u64 (f i:Int))from by
      obtain⟨b',e',_,_,A,_⟩:=aBp (At.below HA5.out hb').dr i hi
      rw[kn_at HA5.out.dm i hi,←HF.out]at A
      exact⟨b',e',A⟩
     have hS:q3.dl.length=m3.datas.length:=by rw[←HA5.out.dm,List.length_map]
     have a1:=yH (show aO=m3.datas.length by rw[←HNd.out,←aAy HA5.out.dr,hS])
     go_wp2
     go_loopw [20] (fun a20 wr'=> ∃a:Nat,a≤k∧a20= .int .i64 (a:Int)∧Hid (posW f (f j) who who.length=posW f (f j) who a)∧Hid (Below w5.heap.size w5 wr')) (fun i _=>(intOf i).toNat)
     case atStart=>exact⟨k,yR _,rfl,yH (by rw[bs]),yH (Below.refl _ _)⟩
     case round=>
      obtain⟨a,fZ,rfl,dT,hbw⟩:=hrel
      obtain⟨cS,aB⟩: ∃c:Bool,c=(decide (0<a)&&decide (f j<f (who.getD (a-1) 0))):=⟨_,rfl⟩
      go_upto_region 16 with fail
      go_cut [20,92]from 68 to 92 (fun i z wx=>i= .int .i64 (a:Int)∧z= .bool cS∧Hid (Below w5.heap.size w5 wx))
      case first=>
       rcases Nat.eq_zero_or_pos a with h0|h0
       ·subst h0
        have dM:cS=false:=by rw[aB];simp
        subst dM
        clear aB
        go_region
        go_wp2
        go_meet
        case rel=>exact⟨by go_num,rfl,yH (hbw.out.drew)⟩
       ·obtain⟨a',rfl⟩: ∃a',a=a'+1:=⟨a-1,by omega⟩
        have jg:=At.below HA5.out hbw.out
        have hY:wr.cell? ⟨g,144,none⟩=some (.slice q3.D aO q3.cd):=HNd.out▸At.cd jg
        obtain⟨bw,eu,kl⟩:=aEf (cf.out.below hbw.out).own a' (by omega)
        have aJ:who.getD a' 0<m3.datas.length:=by
         rw[List.getD_eq_getElem?_getD,List.getElem?_eq_getElem (by omega:a'<who.length)]
         exact yL (cs.out _ (List.getElem_mem _)) gN.out.datas
        obtain⟨b1,ab,r1⟩:=dE.out wr hbw.out (who.getD a' 0) (by omega)
        obtain⟨b2,a4,r2⟩:=dE.out wr hbw.out j (by omega)
        rw[ab]at a4 hY
        injection a4 with a4
        injection a4 with a4
        subst a4
        have j9:=fQ.out _ aJ
        have kh:=fQ.out j (by omega)
        have hU:cS=decide ((f j:Int)<(f (who.getD a' 0):Int)):=by rw[aB];simp
        clear aB jg
        have j6:who.getD a' 0<aO:=by have:=a1.out;omega
        have HC:=yH hU
        clear hU ab
        subst eu
        generalize who.getD a' 0=x at*
        generalize f x=fx at*
        generalize f j=fj at*
        by_cases fW:fj<fx
        ·have d1:decide ((fj:Int)<(fx:Int))=true:=by simp;omega
         have dM:cS=true:=by rw[HC.out];exact d1
         subst dM
         go_region
         go_wp2
         go_meet
         case rel=>exact⟨by go_num,rfl,yH (hbw.out.drew)⟩
        ·have d1:decide ((fj:Int)<(fx:Int))=false:=by simp;omega
         have dM:cS=false:=by rw[HC.out];exact d1
         subst dM
         go_region
         go_wp2
         go_meet
         case rel=>exact⟨by go_num,rfl,yH (hbw.out.drew)⟩
      case rest=>
       obtain⟨rfl,rfl,d8⟩:=hcut
       cases cY:cS with
       |true=>
        have hc2:=cY▸aB
        have gd:0<a:=by
         rcases Nat.eq_zero_or_pos a with h|h
         ·rw[h]at hc2;simp at hc2
         ·exact h
        have fW:f j<f (who.getD (a-1) 0):=by simpa [gd]using hc2.symm
        have dV:posW f (f j) who a=posW f (f j) who (a-1):=by
         obtain⟨a',rfl⟩: ∃a',a=a'+1:=⟨a-1,by omega⟩
         exact if_pos (show f j<f (who.getD a' 0)from fW)
        have gF:=yH (dT.out.trans dV)
        clear aB cY hc2 fW dV
        go_wp2
        go_roundw
        case rel=>exact⟨a-1,by omega,by go_num,gF,d8⟩
        case measure=>simp[intOf];omega
       |false=>
        have hc2:=cY▸aB
        have dV:posW f (f j) who a=a:=by
         rcases Nat.eq_zero_or_pos a with h|h
         ·rw[h];rfl
         ·obtain⟨a',rfl⟩: ∃a',a=a'+1:=⟨a-1,by omega⟩
          have Z: ¬f j<f (who.getD a' 0):=by
           intro h3
           have:(decide (0<a'+1)&&decide (f j<f (who.getD (a'+1-1) 0)))=true:=by rw[Nat.add_sub_cancel,decide_eq_true h3];simp
           rw[←hc2]at this
           cases this
          rw[posW,if_neg Z]
        have gF:=yH (show insW f who j=who.take a++j::who.drop a by unfold insW;rw[dT.out,dV])
        clear aB cY hc2 dV dT
        go_upto_region 18 with fail
        rename World=>wd
        have iG:who.length=k:=bs
        have fe:=yH (cf.out.below d8.out).own
        have bF:=yH (show a+1+(k-a)=k+1 by omega)
        have dc:=yH fun(A8:Option Addr) (c8:Nat) (w8:World) (a9:OwnE 3 1 w8 wd.heap.size A8 (k+1) c8 (iv (insW f who j))) (ca:Below wd.heap.size wd w8)=>show L1 B g w2.heap.size p m L (k+1) w2 w8 q3 A8 c8 A5 c5 (xs++ [.slice (some ⟨w3.heap.size,0,none⟩) ns c4])from by
         have bJ:=d8.out.trans (ca.mono d8.out.size)
         have jL:=d8.out.size
         exact
          {at_:=by rw[HD.out];exact At.below HA5.out bJ
           low:=by rw[HD.out];exact Low.path HLow5.out HA5.out (Path.of_below bJ) (fun x hx=> .inl hx) rfl rfl
           path:=ah.out.below bJ
           who:=by
            rw[HD.out]
            refine⟨aEe a9 (by omega),fun k' A Z=>?_⟩
            have h3:=(OwnE.ltB a9 k' A).1
            have h4:=(At.lt HA5.out k' Z).2
            omega
           pay_:=ck.out.below bJ
           pays:=by rw[iM.out];exact bi.out.below bJ
           apart:=fun j' A Z=>by
            have h3:=(OwnE.ltB a9 j' A).1
            have h4:=(OwnE.ltB ck.out.own j' Z).2
            omega}
        have go:=aIw fe.out
        have kj:=fun W=>aPV A2 k c2 a (by omega) W
        have jN:=fun W=>aPW A2 k c2 a fZ W
        have cO:=yH fun(W:World) (hb:Below wd.heap.size wd W)=>aKD (fe.out.kept hb (yR _)) fZ
        have a0:=yH fun(W:World) (hb:Below wd.heap.size wd W)=>aKE (fe.out.kept hb (yR _)) fZ
        have iz: []++iv (List.take a who)++iv [j]++iv (List.drop a who)=iv (insW f who j):=by rw[gF.out];simp[iv]
        have f8:=yH iz
        try clear iz
        try clear iG
        try clear fe
        try clear go
        try clear HA5
        try clear HLow5
        try clear ah
        try clear cf
        try clear ck
        try clear bi
        try clear iE
        try clear dE
        try clear fQ
        try clear HF
        try clear cs
        try clear gN
        try clear iH
        try clear d7
        try clear HD
        try clear iM
        try clear fJ
        try clear dQ
        try clear ct
        try clear dZ
        try clear df
        try clear cG
        try clear c0
        try clear eL
        try clear fP
        try clear HA
        try clear HI
        try clear HK
        try clear b0
        try clear R0
        try clear eI
        try clear cB
        try clear dd
        try clear aL
        try clear a5
        try clear R1
        try clear bR
        try clear bY
        try clear cH
        try clear dH
        try clear fc
        try clear en
        try clear bq
        try clear f9
        try clear cM
        try clear aw
        have B1:=yH (show Below wd.heap.size wd (wd.drew.alloc (.cells #[] 3))from(Below.refl _ _).drew.alloc (yR _) _)
        have B2:=yH (B1.out.alloc B1.out.size (.cells #[.int .i64 (j:Int)] 3))
        have e9:=(show Below wd.heap.size wd (wd.drew.alloc (.cells #[.int .i64 (j:Int)] 3))from(Below.refl _ _).drew.alloc (yR _) _)
        have B3:=yH (e9.alloc e9.size (.cells #[] 3))
        have E1:=yH (aGm wd.drew wd.heap.size (yR _))
        have E2:=yH (OwnE.alloc E1.out (.cells #[.int .i64 (j:Int)] 3))
        have E3:=yH (show OwnE 3 1 ((wd.drew.alloc (.cells #[.int .i64 (j:Int)] 3)).alloc (.cells #[] 3)) wd.heap.size (some ⟨wd.heap.size+1,0,none⟩) 0 0 []from by
         have:=aGm (wd.drew.alloc (.cells #[.int .i64 (j:Int)] 3)) wd.heap.size e9.size
         simpa using this)
        have J2:=yH (show Blk ((wd.drew.alloc (.cells #[] 3)).alloc (.cells #[.int .i64 (j:Int)] 3)) (wd.heap.size+1) (iv [j]) 3 from Blk.new_at _ _ _ _ (by simp))
        have J3:=yH (show Blk ((wd.drew.alloc (.cells #[.int .i64 (j:Int)] 3)).alloc (.cells #[] 3)) wd.heap.size (iv [j]) 3 from(Blk.new wd.drew (iv [j]) _).alloc _)
        clear e9
        refine wp_region_noPanic ?_
        refine wp_region_held_drew (S:=fun _:World=>True) (by kernel_rfl) trivial (fun hHeld=>?_)
        refine tq 1 96 rfl (fun W hSw=>by go_simp;try (with_reducible rfl)) ?_
        try simp only[Act.put,sA,sZ,sS]
        refine tq 2 97 rfl (fun W hSw=>by go_simp;try (with_reducible rfl)) ?_
        try simp only[Act.put,sA,sZ,sS]
        refine tq 3 98 rfl (fun W hSw=>by go_simp;try (with_reducible rfl)) ?_
        try simp only[Act.put,sA,sZ,sS]
        refine tq 5 100 rfl (fun W hSw=>by go_simp;try (with_reducible rfl)) ?_
        try simp only[Act.put,sA,sZ,sS]
        refine tq 8 103 rfl (fun W hSw=>by go_simp;try (with_reducible rfl)) ?_
        try simp only[Act.put,sA,sZ,sS]
        refine tq 9 104 rfl (fun W hSw=>by go_simp;try (with_reducible rfl)) ?_
        try simp only[Act.put,sA,sZ,sS]
        refine tq 10 105 rfl (fun W hSw=>by go_simp;try (with_reducible rfl)) ?_
        try simp only[Act.put,sA,sZ,sS]
        refine wpAnyH_ready (rs:=[0,6]) (by kernel_rfl) (by simp) ?_
        refine AllReadyH.cons (o:=⟨some 95,_,_,_,_,_⟩) rfl (fun K d=>?_) (AllReadyH.cons (o:=⟨some 101,_,_,_,_,_⟩) rfl (fun K d=>?_) AllReadyH.nil)
        ·go_simp
         try go_wp2_with fail
         refine d.out _ _ trivial (fun hHeld=>?_)
         clear d K
         try simp only[Act.put,sA,sZ,sS]
         refine wpAnyH_ready (rs:=[4,6]) (by kernel_rfl) (by simp) ?_
         refine AllReadyH.cons (o:=⟨some 99,_,_,_,_,_⟩) rfl (fun K d=>?_) (AllReadyH.cons (o:=⟨some 101,_,_,_,_,_⟩) rfl (fun K d=>?_) AllReadyH.nil)
         ·refine aAn (o:=⟨some 99,_,_,_,_,_⟩) intE rfl (.tmp 95) (.tmp 98) rfl wd.heap.size (some ⟨wd.heap.size,0,none⟩) 0 0 [] rfl E1.out A2 a c2 (iv (who.take a)) rfl a (Nat.zero_add _) (cO.out _ B1.out).1 (cO.out _ B1.out).2 (aCI _) (by omega) (by omega) (by unfold maxLen;omega) ?_
          intro A6 c6 w6 bK ak bC
          have bQ:=yH bK
          have bn:=yH (B1.out.trans (below_grown ak B1.out.size (fun q hq=>(OwnE.ltB E1.out q hq).1)))
          clear bK ak bC
          refine d.out _ _ trivial (fun hHeld=>?_)
          clear d K
          try simp only[Act.put,sA,sZ,sS]
          refine rd 6 rfl (fun K d=>?_)
          go_simp
          try go_wp2_with fail
          refine d.out _ _ trivial (fun hHeld=>?_)
          clear d K
          try simp only[Act.put,sA,sZ,sS]
          refine rd 7 rfl (fun K d=>?_)
          refine aAn (o:=⟨some 102,_,_,_,_,_⟩) intE rfl (.tmp 99) (.tmp 101) rfl wd.heap.size A6 a c6 _ rfl (OwnE.alloc bQ.out _) (some ⟨w6.heap.size,0,none⟩) 1 1 (iv [j]) rfl (a+1) rfl rfl (fun q u hq=>⟨_,rfl,Blk.news (Blk.new w6 (iv [j]) _) q u hq⟩) (aCI _) (by omega) (by omega) (by unfold maxLen;omega) ?_
          intro A7 c7 w7 bS aD bG
          have bv:=yH bS
          have an:=yH ((bn.out.alloc bn.out.size _).trans (below_grown aD (by have:=bn.out.size;simp;omega) (fun q hq=>(OwnE.ltB bQ.out q hq).1)))
          clear bS aD bG
          refine d.out _ _ trivial (fun hHeld=>?_)
          clear d K
          try simp only[Act.put,sA,sZ,sS]
          refine rd 11 rfl (fun K d=>?_)
          refine aAn (o:=⟨some 106,_,_,_,_,_⟩) intE rfl (.tmp 102) (.tmp 105) rfl wd.heap.size A7 (a+1) c7 _ rfl bv.out (cutA A2 c2 a) (k-a) (c2-a) (iv (who.drop a)) rfl (k+1) bF.out (a0.out _ an.out).1 (a0.out _ an.out).2 (aCI _) (by omega) (by omega) (by unfold maxLen;omega) ?_
          intro A8 c8 w8 bU aC bu
          have a9:=yH (f8.out▸bU)
          have ca:=yH (an.out.trans (below_grown aC an.out.size (fun q hq=>(OwnE.ltB bv.out q hq).1)))
          clear bU aC bu
          refine d.out _ _ trivial (fun hHeld=>?_)
          clear d K
          try simp only[Act.put,sA,sZ,sS]
          refine tq 12 16 rfl (fun W hSw=>by go_simp;try (with_reducible rfl)) ?_
          try simp only[Act.put,sA,sZ,sS]
          refine wpAnyH_done (by kernel_rfl) ?_ _
          refine NoPanic.normal ?_
          try go_wp2_with fail
          go_roundw
          case measure=>simp[intOf];omega
          case rel=>exact⟨k+1,q3,A8,c8,A5,c5,_,by omega,by go_num,rfl,rfl,yH (dc.out A8 c8 _ a9.out ca.out)⟩
         ·go_simp
          try go_wp2_with fail
          refine d.out _ _ trivial (fun hHeld=>?_)
          clear d K
          try simp only[Act.put,sA,sZ,sS]
          refine rd 4 rfl (fun K d=>?_)
          refine aAn (o:=⟨some 99,_,_,_,_,_⟩) intE rfl (.tmp 95) (.tmp 98) rfl wd.heap.size (some ⟨wd.heap.size,0,none⟩) 0 0 [] rfl E2.out A2 a c2 (iv (who.take a)) rfl a (Nat.zero_add _) (cO.out _ B2.out).1 (cO.out _ B2.out).2 (aCI _) (by omega) (by omega) (by unfold maxLen;omega) ?_
          intro A6 c6 w6 bK ak bC
          have bQ:=yH bK
          have bn:=yH (B2.out.trans (below_grown ak B2.out.size (fun q hq=>(OwnE.ltB E2.out q hq).1)))
          have J6:=yH (aAl (g:=wd.heap.size) J2.out ak (by omega))
          clear bK ak bC
          refine d.out _ _ trivial (fun hHeld=>?_)
          clear d K
          try simp only[Act.put,sA,sZ,sS]
          refine rd 7 rfl (fun K d=>?_)
          refine aAn (o:=⟨some 102,_,_,_,_,_⟩) intE rfl (.tmp 99) (.tmp 101) rfl wd.heap.size A6 a c6 _ rfl bQ.out (some ⟨wd.heap.size+1,0,none⟩) 1 1 (iv [j]) rfl (a+1) rfl rfl (fun q u hq=>⟨_,rfl,Blk.news J6.out q u hq⟩) (aCI _) (by omega) (by omega) (by unfold maxLen;omega) ?_
          intro A7 c7 w7 bS aD bG
          have bv:=yH bS
          have an:=yH (bn.out.trans (below_grown aD bn.out.size (fun q hq=>(OwnE.ltB bQ.out q hq).1)))
          clear bS aD bG
          refine d.out _ _ trivial (fun hHeld=>?_)
          clear d K
          try simp only[Act.put,sA,sZ,sS]
          refine rd 11 rfl (fun K d=>?_)
          refine aAn (o:=⟨some 106,_,_,_,_,_⟩) intE rfl (.tmp 102) (.tmp 105) rfl wd.heap.size A7 (a+1) c7 _ rfl bv.out (cutA A2 c2 a) (k-a) (c2-a) (iv (who.drop a)) rfl (k+1) bF.out (a0.out _ an.out).1 (a0.out _ an.out).2 (aCI _) (by omega) (by omega) (by unfold maxLen;omega) ?_
          intro A8 c8 w8 bU aC bu
          have a9:=yH (f8.out▸bU)
          have ca:=yH (an.out.trans (below_grown aC an.out.size (fun q hq=>(OwnE.ltB bv.out q hq).1)))
          clear bU aC bu
          refine d.out _ _ trivial (fun hHeld=>?_)
          clear d K
          try simp only[Act.put,sA,sZ,sS]
          refine tq 12 16 rfl (fun W hSw=>by go_simp;try (with_reducible rfl)) ?_
          try simp only[Act.put,sA,sZ,sS]
          refine wpAnyH_done (by kernel_rfl) ?_ _
          refine NoPanic.normal ?_
          try go_wp2_with fail
          go_roundw
          case measure=>simp[intOf];omega
          case rel=>exact⟨k+1,q3,A8,c8,A5,c5,_,by omega,by go_num,rfl,rfl,yH (dc.out A8 c8 _ a9.out ca.out)⟩
        ·go_simp
         try go_wp2_with fail
         refine d.out _ _ trivial (fun hHeld=>?_)
         clear d K
         try simp only[Act.put,sA,sZ,sS]
         refine rd 0 rfl (fun K d=>?_)
         go_simp
         try go_wp2_with fail
         refine d.out _ _ trivial (fun hHeld=>?_)
         clear d K
         try simp only[Act.put,sA,sZ,sS]
         refine rd 4 rfl (fun K d=>?_)
         refine aAn (o:=⟨some 99,_,_,_,_,_⟩) intE rfl (.tmp 95) (.tmp 98) rfl wd.heap.size (some ⟨wd.heap.size+1,0,none⟩) 0 0 [] rfl E3.out A2 a c2 (iv (who.take a)) rfl a (Nat.zero_add _) (cO.out _ B3.out).1 (cO.out _ B3.out).2 (aCI _) (by omega) (by omega) (by unfold maxLen;omega) ?_
         intro A6 c6 w6 bK ak bC
         have bQ:=yH bK
         have bn:=yH (B3.out.trans (below_grown ak B3.out.size (fun q hq=>(OwnE.ltB E3.out q hq).1)))
         have J6:=yH (aAl (g:=wd.heap.size+1) J3.out ak (by omega))
         clear bK ak bC
         refine d.out _ _ trivial (fun hHeld=>?_)
         clear d K
         try simp only[Act.put,sA,sZ,sS]
         refine rd 7 rfl (fun K d=>?_)
         refine aAn (o:=⟨some 102,_,_,_,_,_⟩) intE rfl (.tmp 99) (.tmp 101) rfl wd.heap.size A6 a c6 _ rfl bQ.out (some ⟨wd.heap.size,0,none⟩) 1 1 (iv [j]) rfl (a+1) rfl rfl (fun q u hq=>⟨_,rfl,Blk.news J6.out q u hq⟩) (aCI _) (by omega) (by omega) (by unfold maxLen;omega) ?_
         intro A7 c7 w7 bS aD bG
         have bv:=yH bS
         have an:=yH (bn.out.trans (below_grown aD bn.out.size (fun q hq=>(OwnE.ltB bQ.out q hq).1)))
         clear bS aD bG
         refine d.out _ _ trivial (fun hHeld=>?_)
         clear d K
         try simp only[Act.put,sA,sZ,sS]
         refine rd 11 rfl (fun K d=>?_)
         refine aAn (o:=⟨some 106,_,_,_,_,_⟩) intE rfl (.tmp 102) (.tmp 105) rfl wd.heap.size A7 (a+1) c7 _ rfl bv.out (cutA A2 c2 a) (k-a) (c2-a) (iv (who.drop a)) rfl (k+1) bF.out (a0.out _ an.out).1 (a0.out _ an.out).2 (aCI _) (by omega) (by omega) (by unfold maxLen;omega) ?_
         intro A8 c8 w8 bU aC bu
         have a9:=yH (f8.out▸bU)
         have ca:=yH (an.out.trans (below_grown aC an.out.size (fun q hq=>(OwnE.ltB bv.out q hq).1)))
         clear bU aC bu
         refine d.out _ _ trivial (fun hHeld=>?_)
         clear d K
         try simp only[Act.put,sA,sZ,sS]
         refine tq 12 16 rfl (fun W hSw=>by go_simp;try (with_reducible rfl)) ?_
         try simp only[Act.put,sA,sZ,sS]
         refine wpAnyH_done (by kernel_rfl) ?_ _
         refine NoPanic.normal ?_
         try go_wp2_with fail
         go_roundw
         case measure=>simp[intOf];omega
         case rel=>exact⟨k+1,q3,A8,c8,A5,c5,_,by omega,by go_num,rfl,rfl,yH (dc.out A8 c8 _ a9.out ca.out)⟩
    ·obtain rfl:k=n1:=by omega
     obtain⟨i1,i2,i3,i4,i5⟩:=aAs HI.out L bY.out k (by rw[cP.out];exact yR _)
     obtain⟨aP,aj,aI,ai,bx,au,eD⟩:=eY.out
     have dR:L.take k=L:=List.take_of_length_le (by rw[cP.out];exact yR _)
     rw[dR]at i1 i2 i3 i4 i5 aP aj ai au
     rcases hdk:Mk.dataAll m L with⟨n,who⟩
     rw[hdk]at i1 i2 i3 i4 i5 aP aj ai
     dsimp only at i1 i2 i3 i4 i5 aP aj ai
     have gq:=yH hdk
     have cc:=yH aP
     have fB:=yH aj
     have cp:=yH aI
     have cF:=yH ai
     have dI:=yH bx
     have bX:=yH au
     have ar:=yH i1
     have cs:=yH i3
     have d7:=yH i5
     have ea:=yH i4
     have aV:=yH i2
     have fi:k≤16:=fw
     clear hdk aP aj aI ai bx au eD i1 i2 i3 i5 eY dR fP
     rename World=>wA
     obtain⟨fA,ig⟩: ∃f:Nat→Nat,∀i,f i=(Mk.kn n (who.getD i 0)).at_:=⟨_,fun i=>rfl⟩
     obtain⟨hA,iA⟩: ∃f:Nat→Int,∀i,f i=Mk.sum n (Mk.kn n (who.getD i 0)).text:=⟨_,fun i=>rfl⟩
     have cT:=yH ig
     have ew:=yH iA
     clear ig iA
     have eK:=yH fun(x:Nat) (hx:x<n.datas.length)=>show Mk.kn n x∈n.datas from by
      unfold Mk.kn
      rw[List.getD_eq_getElem?_getD,List.getElem?_eq_getElem hx]
      exact List.getElem_mem hx
     have eW:=yH fun(i:Nat) (hi:i<k)=>show who.getD i 0<n.datas.length from by
      rw[List.getD_eq_getElem?_getD,List.getElem?_eq_getElem (by rw[aV.out];exact hi:i<who.length)]
      exact cs.out _ (List.getElem_mem _)
     have cE:q.dl.length=n.datas.length:=by rw[←cc.out.dm,List.length_map]
     obtain⟨nd,ce⟩: ∃x,q.nd=x:=⟨_,rfl⟩
     have HNd:=yH ce
     have a1:=yH (show nd=n.datas.length by rw[←ce,←aAy cc.out.dr,cE])
     have bL:=yH cE
     clear ce cE
     have hnd9:nd≤100000:=by have:=ar.out.dn;have:=a1.out;omega
     go_wp2
     go_loopw [15,21] (fun a15 a21 wr=> ∃(i:Nat) (A9:Option Addr) (c9:Nat),i≤k∧a21= .int .i64 (i:Int)∧a15= .slice A9 i c9∧Hid (OwnE 175 2 wr wA.heap.size A9 i c9 (itv (fun i=>(fA i:Int)) hA i))∧Hid (Below wA.heap.size wA wr)) (fun _ i _=>k-(intOf i).toNat)
     case atStart=>exact⟨0,none,0,Nat.zero_le _,rfl,rfl,yH (OwnE.nil _ _ (yR _)),yH (Below.refl _ _)⟩
     case round=>
      obtain⟨i,A9,c9,ko,rfl,rfl,cQ,ay⟩:=hrel
      by_cases bt:i<k
      ·have hx:=eW.out i bt
       have cI:=At.below cc.out ay.out
       have az:wr.drew.cell? ⟨g,144,none⟩=some (.slice q.D nd q.cd):=HNd.out▸At.cd (At.drew cI)
       obtain⟨bw,eu,aH⟩:=aEf (cF.out.below ay.out).own i (by rw[aV.out];exact bt)
       subst eu
       obtain⟨H,ab,cU,d0,d1,d2,d3,d4⟩:=aBp cI.dr (who.getD i 0) (by rw[bL.out];exact hx)
       rw[ab]at az
       rw[kn_at cI.dm _ (by rw[bL.out];exact hx)]at d0 d1 d2 d3
       rw[←cT.out]at d1
       have jW:who.getD i 0<nd:=by rw[a1.out];exact hx
       have dG:=ar.out.dat _ (eK.out _ hx)
       have gT:=ew.out i
       have hd:=dG.2.1
       have jo:=dG.2.2.1
       have ki:fA i≤100000:=by rw[cT.out];omega
       generalize jl:Mk.kn n (who.getD i 0)=kx at*
       obtain⟨tx,ax,sx,nx,rx⟩:=kx
       dsimp only at d0 d2 d3 gT hd jo
       have jD:=yH gT
       obtain⟨Av,nv,cv,ev,_,_⟩:=cI.da _ (List.getElem_mem (by rw[bL.out];exact hx:who.getD i 0<q.dl.length))
       rw[ev]at d4
       clear ev
       generalize who.getD i 0=x at*
       clear jl dG gT ab
       have e0:wr.drew.cell? ⟨H,x*5,none⟩=some (.string (T tx)):=d0
       have e1:wr.drew.cell? ⟨H,x*5+1,none⟩=some (.int .u64 (fA i:Int)):=d1
       have e2:wr.drew.cell? ⟨H,x*5+2,none⟩=some (.int .i64 (sx:Int)):=d2
       have e3:wr.drew.cell? ⟨H,x*5+3,none⟩=some (.int .i64 (nx:Int)):=d3
       have e4:wr.drew.cell? ⟨H,x*5+4,none⟩=some (.slice Av nv cv):=d4
       have e5:wr.drew.cell? ⟨bw,i,none⟩=some (.int .i64 (x:Int)):=aH
       have bW:=yH fun(W:World) (hW:Below wr.heap.size wr W)=>show W.cell? ⟨g,144,none⟩=some (.slice (some ⟨H,0,none⟩) nd q.cd)∧W.cell? ⟨H,x*5,none⟩=some (.string (T tx))∧W.cell? ⟨H,x*5+1,none⟩=some (.int .u64 (fA i:Int))∧W.cell? ⟨H,x*5+2,none⟩=some (.int .i64 (sx:Int))∧W.cell? ⟨H,x*5+3,none⟩=some (.int .i64 (nx:Int))∧W.cell? ⟨H,x*5+4,none⟩=some (.slice Av nv cv)∧W.cell? ⟨bw,i,none⟩=some (.int .i64 (x:Int))from
        ⟨(hW.cell (p:=⟨g,144,none⟩) cI.st.st.lt).trans az,(hW.cell (p:=⟨H,x*5,none⟩) cU).trans d0,(hW.cell (p:=⟨H,x*5+1,none⟩) cU).trans d1,(hW.cell (p:=⟨H,x*5+2,none⟩) cU).trans d2,(hW.cell (p:=⟨H,x*5+3,none⟩) cU).trans d3,(hW.cell (p:=⟨H,x*5+4,none⟩) cU).trans d4,(hW.cell (p:=⟨bw,i,none⟩) (aAH aH)).trans aH⟩
       have dC:=yH (show Below wr.heap.size wr (wr.alloc (.cells #[.string {data:= #[]},.int .u64 0,.int .i64 0,.int .i64 0,.slice none 0 0] 173)).drew from((Below.refl _ _).alloc (yR _) _).drew)
       have bk:=yH (show Below wr.heap.size wr (wr.alloc (.cells #[.string (T tx),.int .u64 (fA i:Int),.int .i64 (sx:Int),.int .i64 (nx:Int),.slice Av nv cv] 173)).drew from((Below.refl _ _).alloc (yR _) _).drew)
       go_upto_region 22 with fail
       go_region_held3 (fun W=>W.cell? ⟨g,144,none⟩=some (.slice (some ⟨H,0,none⟩) nd q.cd)∧W.cell? ⟨H,x*5,none⟩=some (.string (T tx))∧W.cell? ⟨H,x*5+1,none⟩=some (.int .u64 (fA i:Int))∧W.cell? ⟨H,x*5+2,none⟩=some (.int .i64 (sx:Int))∧W.cell? ⟨H,x*5+3,none⟩=some (.int .i64 (nx:Int))∧W.cell? ⟨H,x*5+4,none⟩=some (.slice Av nv cv)∧W.cell? ⟨bw,i,none⟩=some (.int .i64 (x:Int))) (first|(with_reducible exact⟨az,e0,e1,e2,e3,e4,e5⟩)|(exact bW.out _ dC.out)|(exact bW.out _ bk.out)|go_keep) (fail)
       have RK:=yH (Blk.drew (Blk.new wr [.string (T tx),.int .u64 (fA i:Int),.int .i64 (sx:Int),.int .i64 (nx:Int),.slice Av nv cv] 173))
       generalize (wr.alloc (.cells #[.string (T tx),.int .u64 (fA i:Int),.int .i64 (sx:Int),.int .i64 (nx:Int),.slice Av nv cv] 173)).drew=wk at*
       clear az e0 e1 e2 e3 e4 e5 d0 d1 d2 d3 d4 aH bW dC
       have hbw:=bk.out.size
       have cX:=yH (At.below cI bk.out)
       have eP:=yH fun(W:World) (hW:Below wk.heap.size wk W)=>show(fun W:World=>W.cell? ⟨g,51,none⟩=some (.bool n.C.keyed)∧W.rangeAt g 0 (fileV n.C)∧W.cell? ⟨wr.heap.size,1,none⟩=some (.int .u64 (fA i:Int))∧W.cell? ⟨wr.heap.size,0,none⟩=some (.string (T tx))) W from
        ⟨(At.below cX.out hW).st.st.cell (Mk.get_keyed _ _),Mk.file_range (At.below cX.out hW).st.st,(RK.out.below hW RK.out.lt).cell (i:=1) rfl,(RK.out.below hW RK.out.lt).cell (i:=0) rfl⟩
       have jY:=ay.out.size
       have jp:=yH fun(W W0:World) (hW:Below wk.heap.size wk W0) (hg:W0.grownBy W (ownB A9))=>show(fun W:World=>W.cell? ⟨g,51,none⟩=some (.bool n.C.keyed)∧W.rangeAt g 0 (fileV n.C)∧W.cell? ⟨wr.heap.size,1,none⟩=some (.int .u64 (fA i:Int))∧W.cell? ⟨wr.heap.size,0,none⟩=some (.string (T tx))) W from by
        have fk: ∀j',ownB A9=some j'→wA.heap.size≤j'∧j'<wr.heap.size:=OwnE.ltB cQ.out
        have hR:=(At.below cX.out hW).st.st
        have kf:g<wA.heap.size:=(At.lt cc.out g (.inl rfl)).2
        have A:Blk W g _ 157:=(hg.block g hR.lt (fun e=>by have:=(fk g e.symm).1;omega)).trans hR
        have hE:=RK.out.below hW RK.out.lt
        have Z:Blk W wr.heap.size _ 173:=(hg.block wr.heap.size hE.lt (fun e=>by have:=(fk _ e.symm).2;omega)).trans hE
        exact⟨A.cell (Mk.get_keyed _ _),Mk.file_range A,Z.cell (i:=1) rfl,Z.cell (i:=0) rfl⟩
       obtain⟨ns,db⟩: ∃ns,tx.length=ns:=⟨_,rfl⟩
       have HS:=yH db
       clear db
       have HO:=yH fun(W:World) (c:Nat) (h:Bytes W (some ⟨wk.heap.size,0,none⟩) tx)=>aFO n.C.keyed n.C.F _ tx ns c W ar.out.F h HS.out (by rw[←HS.out];omega)
       rw[show ofS n.C.keyed (idL n.C.F) tx=hA i from jD.out.symm]at HO
       obtain⟨ka,mk,eO⟩:=aBL tx hd
       have cY:=fun w=>(eO w).1
       simp only[HS.out]at cY
       have aL:=yH ((eO wk.drew).2.1 wk.heap.size rfl)
       have gZ:=yH (((Below.refl wk.heap.size wk).drew).trans (eO wk.drew).2.2.below)
       clear eO
       have fS:=Tryz.underlying37
       have jK:(Tryz.prog.info? 37).map (·.size)=some (fileV n.C).length:=by kernel_rfl
       go_upto_region 23 with fail
       refine wp_region_noPanic ?_
       refine wp_region_held_drew (S:=fun W:World=>W.cell? ⟨g,51,none⟩=some (.bool n.C.keyed)∧W.rangeAt g 0 (fileV n.C)∧W.cell? ⟨wr.heap.size,1,none⟩=some (.int .u64 (fA i:Int))∧W.cell? ⟨wr.heap.size,0,none⟩=some (.string (T tx))) (by kernel_rfl) (by exact eP.out _ (Below.refl _ _).drew) (fun hHeld=>?_)
       refine tq 0 123 rfl (fun W hSw=>by go_simp;try (with_reducible rfl)) ?_
       try simp only[Act.put,sA,sZ,sS]
       refine tq 1 124 rfl (fun W hSw=>by go_simp;try (with_reducible rfl)) ?_
       try simp only[Act.put,sA,sZ,sS]
       refine tq 2 125 rfl (fun W hSw=>by have bV:=hSw.2.2.1;go_simp;try (with_reducible rfl)) ?_
       try simp only[Act.put,sA,sZ,sS]
       refine tq 3 126 rfl (fun W hSw=>by go_simp;try (with_reducible rfl)) ?_
       try simp only[Act.put,sA,sZ,sS]
       refine tq 4 127 rfl (fun W hSw=>by go_simp;try (with_reducible rfl)) ?_
       try simp only[Act.put,sA,sZ,sS]
       refine tq 5 128 rfl (fun W hSw=>by go_simp;try (with_reducible rfl)) ?_
       try simp only[Act.put,sA,sZ,sS]
       refine tq 6 129 rfl (fun W hSw=>by go_simp;try (with_reducible rfl)) ?_
       try simp only[Act.put,sA,sZ,sS]
       refine tq 7 130 rfl (fun W hSw=>by have bV:=hSw.1;go_simp;try (with_reducible rfl)) ?_
       try simp only[Act.put,sA,sZ,sS]
       refine tq 8 131 rfl (fun W hSw=>by go_simp;try (with_reducible rfl)) ?_
       try simp only[Act.put,sA,sZ,sS]
       refine tq 9 132 rfl (fun W hSw=>by go_simp;try (with_reducible rfl)) ?_
       try simp only[Act.put,sA,sZ,sS]
       refine tq 10 133 rfl (fun W hSw=>by go_simp;try (with_reducible rfl)) ?_
       try simp only[Act.put,sA,sZ,sS]
       refine tq 11 134 rfl (fun W hSw=>by go_simp;try (with_reducible rfl)) ?_
       try simp only[Act.put,sA,sZ,sS]
       refine tk (i:=12) (oi:=⟨some 135,_,_,_,_,_⟩) rfl (yieldsIf_load_mid (by rfl) _ _ rfl _ _ rfl _ _ (fun _ h=>h.2.1) fS rfl jK) ?_
       try simp only[Act.put,sA,sZ,sS]
       refine tq 13 136 rfl (fun W hSw=>by go_simp;try (with_reducible rfl)) ?_
       try simp only[Act.put,sA,sZ,sS]
       refine tq 14 137 rfl (fun W hSw=>by have bV:=hSw.2.2.2;go_simp;try (with_reducible rfl)) ?_
       try simp only[Act.put,sA,sZ,sS]
       refine rd 15 rfl (fun K d=>?_)
       go_simp
       skip
       try go_wp2_with fail
       refine d.out _ _ (by exact eP.out _ gZ.out) (fun hHeld=>?_)
       clear d K
       try simp only[Act.put,sA,sZ,sS]
       refine rd 16 rfl (fun K d=>?_)
       go_simp
       (refine(HO.out _ _ aL.out).mono ?_);rintro e wO ⟨rfl,hF⟩;have eb:=yH (gZ.out.trans (hF.mono gZ.out.size));clear hF
       try go_wp2_with fail
       refine d.out _ _ (by exact eP.out _ eb.out) (fun hHeld=>?_)
       clear d K
       try simp only[Act.put,sA,sZ,sS]
       refine tq 17 140 rfl (fun W hSw=>by go_simp;try (with_reducible rfl)) ?_
       try simp only[Act.put,sA,sZ,sS]
       refine rd 18 rfl (fun K d=>?_)
       go_simp
       skip
       try go_wp2_with fail
       refine d.out _ _ (by exact eP.out _ (eb.out.alloc eb.out.size _)) (fun hHeld=>?_)
       clear d K
       try simp only[Act.put,sA,sZ,sS]
       refine rd 19 rfl (fun K d=>?_)
       have bO:=eb.out.alloc eb.out.size (.cells #[.int .u64 (fA i:Int),.int .u64 (hA i)] 175)
       refine aAn (o:=⟨some 142,_,_,_,_,_⟩) aQq rfl (.tmp 123) (.tmp 141) rfl wA.heap.size A9 i c9 (itv (fun i=>(fA i:Int)) hA i) rfl (cQ.out.kept (bk.out.trans (bO.mono bk.out.size)) (yR _)) (some ⟨wO.heap.size,0,none⟩) 1 1 [.int .u64 (fA i:Int),.int .u64 (hA i)] rfl (i+1) rfl rfl (fun q' u dY=>⟨_,rfl,Blk.news (Blk.new wO _ 175) q' u dY⟩) (by simp[Value.oneCell']) (by omega) (by omega) (by unfold maxLen;omega) ?_
       intro iX ho w10 fl ch gw
       have hO:=yH (show OwnE 175 2 w10 wA.heap.size iX (i+1) ho (itv (fun i=>(fA i:Int)) hA (i+1))from by rw[aFx];exact fl)
       have it:=yH (show Below wA.heap.size wA w10 from(ay.out.trans ((bk.out.trans (bO.mono bk.out.size)).mono ay.out.size)).trans (below_grown ch (by have:=ay.out.size;have:=bk.out.size;have:=bO.size;omega) (fun q' dY=>(OwnE.ltB cQ.out q' dY).1)))
       have cw:=jp.out w10 _ bO ch
       clear fl ch gw bO
       refine d.out _ _ cw (fun hHeld=>?_)
       clear d K
       try simp only[Act.put,sA,sZ,sS]
       refine tq 20 15 rfl (fun W hSw=>by go_simp;try (with_reducible rfl)) ?_
       try simp only[Act.put,sA,sZ,sS]
       refine wpAnyH_done (by kernel_rfl) ?_ _
       refine NoPanic.normal ?_
       try go_wp2_with fail
       go_roundw
       case rel=>exact⟨i+1,iX,ho,by omega,by go_num,rfl,hO,it⟩
       case measure=>simp[intOf];omega
      ·obtain rfl:i=k:=by omega
       rename World=>wB
       have e6:=yH (At.below cc.out ay.out)
       have am:=yH (cp.out.below ay.out)
       have b7:=yH (cF.out.below ay.out)
       have bZ:=yH (dI.out.below ay.out)
       have a6:=yH (bX.out.below ay.out)
       have gH:=yH fun(j:Nat)=>show 0≤hA j∧hA j≤18446744073709551615 from by rw[ew.out];exact aF6 _ _ _
       have fN:=yH (own_in2 cQ.out (fun j hj=>⟨by omega,by
        have A:=eW.out j hj
        have Z:=(ar.out.dat _ (eK.out _ A)).1
        rw[cT.out]
        omega⟩) (fun j _=>gH.out j))
       have fo:=cM.out
       have cL:=yH (show Blk wB w.heap.size (idE K) 37 from(am.out.kept.block _ (yL R1.out.lt aw.out.size) (fun hf=>absurd (bq _ hf) (Nat.lt_irrefl _))).trans ((aw.out.block _ R1.out.lt).trans R1.out))
       have g9:n.h.N 9=s9:=d7.out.n9.trans aE.out
       have cA:=yH (aDE B g q.bb q.cb q.S n wB e6.out.st)
       rw[g9]at cA
       have e8:s9+1≤18446744073709551615:=by have:=HT.out;omega
       have jj:IntKind.u64.wrap (s9+1)=s9+1:=by rw[IntKind.wrap_u64];omega
       obtain⟨sq,jq⟩: ∃x,s9+1=x:=⟨_,rfl⟩
       have ee:=yH jq
       go_upto_region 25 with(first|(go_at_call 66;(refine cA.out.mono ?_);rintro e w' ⟨rfl,rfl⟩)|fail)
       have ij:0≤sq∧sq≤18446744073709551615:=by omega
       clear jj g9
       obtain⟨e7,cz⟩: ∃x,x=xr (L.map fun q=>pay q.1 q.2):=⟨_,rfl⟩
       have fd:=yH (aM3 w2.heap.size i c3 g q A3 xs _ wB.drew (OwnE.drew bZ.out.own) (a6.out.below (Below.refl _ _).drew) (by omega) (fun l hl=>by
        obtain⟨q',dY,rfl⟩:=List.mem_map.1 hl
        have A:=bY.out q' dY
        rw[Fa.pay_len]
        omega))
       rw[←cz]at fd
       have iq:(0:Int)≤(e7:Nat)∧((e7:Nat):Int)≤18446744073709551615:=by have:=aPi (L.map fun q=>pay q.1 q.2);rw[←cz]at this;omega
       have gf:=yH cz
       clear cz
       have cR:=yH (aFc sq real mono K (e7:Int) A9 i c9 (fun j=>(fA j:Int)) hA wB.drew (fN.out.keep (Below.refl _ _).drew) (by omega) HK.out ij hr hm iq)
       have b9:objB 3 (entB sq real mono K (e7:Int) (prs (fun j=>(fA j:Int)) hA i))=Mk.eobj n who (L.map fun q=>pay q.1 q.2) sq real mono K:=by
        unfold Mk.eobj
        rw[←gf.out,show(fun i=>((Mk.kn n (who.getD i 0)).at_:Int))=(fun j=>(fA j:Int))from funext fun j=>by rw[cT.out],show(fun i=>Mk.sum n (Mk.kn n (who.getD i 0)).text)=hA from funext fun j=>(ew.out j).symm,aV.out]
       have hw:(Mk.eobj n who (L.map fun q=>pay q.1 q.2) sq real mono K).length=16+(48+16*i):=by
        rw[←b9,aBj,aDC,show padN (48+16*i)=0 by unfold padN;omega]
        omega
       rw[b9,show padN (48+16*i)=0 by unfold padN;omega]at cR
       unfold Owned at cR
       obtain⟨eo,gx⟩: ∃x,x=Mk.eobj n who (L.map fun q=>pay q.1 q.2) sq real mono K:=⟨_,rfl⟩
       rw[←gx]at cR hw
       have ic:=yH gx
       clear b9 gx
       have jR:n.b.length≤42400:=by have:=ea.out;omega
       have f7: ∀j,q.foot g j→j≠w.heap.size:=fun j hj e=>by
        rcases am.out.foot j hj with A|A
        ·have:=bq j A;omega
        ·have:=aw.out.size;have:=R1.out.lt;omega
       have dW:=yH fun(W:World) (hW:Below wB.heap.size wB W)=>show W.rangeAt w.heap.size 0 (idE K)from aGv (cL.out.below hW cL.out.lt)
       have dP:=yH fun(W W':World) (hW:Below wB.drew.heap.size wB.drew W) (p':Pl) (hP:Path g q W p' W')=>show W'.rangeAt w.heap.size 0 (idE K)from by
        have A:=cL.out.below ((Below.refl wB.heap.size wB).drew.trans hW) cL.out.lt
        exact aGv (show Blk W' w.heap.size (idE K) 37 from(hP.kept.block _ A.lt (fun hf=>f7 _ hf rfl)).trans A)
       have fS:=Tryz.underlying37
       have idJ:(Tryz.prog.info? 37).map (·.size)=some (idE K).length:=by kernel_rfl
       refine wp_region_noPanic ?_
       refine wp_region_held_drew (S:=fun W:World=>W.rangeAt w.heap.size 0 (idE K)) (by kernel_rfl) (by exact dW.out _ (Below.refl _ _).drew) (fun hHeld=>?_)
       refine tq 0 146 rfl (fun W hSw=>by go_simp;try (with_reducible rfl)) ?_
       try simp only[Act.put,sA,sZ,sS]
       refine tq 1 147 rfl (fun W hSw=>by go_simp;try (with_reducible rfl)) ?_
       try simp only[Act.put,sA,sZ,sS]
       refine tq 2 148 rfl (fun W hSw=>by go_simp;try (with_reducible rfl)) ?_
       try simp only[Act.put,sA,sZ,sS]
       refine tq 3 149 rfl (fun W hSw=>by go_simp;try (with_reducible rfl)) ?_
       try simp only[Act.put,sA,sZ,sS]
       refine tk (i:=4) (oi:=⟨some 150,_,_,_,_,_⟩) rfl (yieldsIf_load_mid (by rfl) _ _ rfl _ _ rfl _ _ (fun _ h=>h) fS rfl idJ) ?_
       try simp only[Act.put,sA,sZ,sS]
       refine tq 5 151 rfl (fun W hSw=>by go_simp;try (with_reducible rfl)) ?_
       try simp only[Act.put,sA,sZ,sS]
       refine tq 7 153 rfl (fun W hSw=>by go_simp;try (with_reducible rfl)) ?_
       try simp only[Act.put,sA,sZ,sS]
       refine rd 6 rfl (fun K d=>?_)
       go_simp
       (refine(fd.out).mono ?_);rintro e wX ⟨rfl,rfl⟩
       try go_wp2_with fail
       refine d.out _ _ (by exact dW.out _ (Below.refl _ _).drew) (fun hHeld=>?_)
       clear d K
       try simp only[Act.put,sA,sZ,sS]
       refine tq 8 154 rfl (fun W hSw=>by go_simp;try (with_reducible rfl)) ?_
       try simp only[Act.put,sA,sZ,sS]
       refine rd 9 rfl (fun K d=>?_)
       go_simp
       (refine(cR.out).mono ?_);rintro e w4 ⟨A4,c4,rfl,hI,gh⟩;have eZ:=yH hI;have aZ:=yH gh;have cK:=yH (At.below (At.drew e6.out) gh);clear hI gh
       try go_wp2_with fail
       refine d.out _ _ (by exact dW.out _ ((Below.refl _ _).drew.trans aZ.out)) (fun hHeld=>?_)
       clear d K
       try simp only[Act.put,sA,sZ,sS]
       refine rd 10 rfl (fun K d=>?_)
       go_simp
       (refine(aCc A4 _ c4 _ w4 cK.out eZ.out.bytes eZ.out.2.1 (by have:=ar.out.len;omega) (by omega) (by have:=ar.out.n7;omega)).mono ?_);rintro e w5 ⟨rfl,b5,hT,ja,ga⟩;have HA5:=yH ja;have eV:=yH ga;have gV:=dP.out w4 w5 aZ.out _ ga;clear ja ga
       try go_wp2_with fail
       refine d.out _ _ (by exact gV) (fun hHeld=>?_)
       clear d K
       try simp only[Act.put,sA,sZ,sS]
       refine tq 11 24 rfl (fun W hSw=>by go_simp;try (with_reducible rfl)) ?_
       try simp only[Act.put,sA,sZ,sS]
       refine wpAnyH_done (by kernel_rfl) ?_ _
       refine NoPanic.normal ?_
       obtain⟨n8,gg,fI,jU⟩:=ar.out.mn
       have bE:w5.cell? ⟨g,127,none⟩=some (.int .u64 (n8:Int)):=(At.cN HA5.out 8 127 (by decide) rfl).trans (congrArg (fun x=>some (Value.int .u64 x)) gg)
       have jP:n8≤42400:=by omega
       have I2:=aA7 ar.out eo (by omega) (by omega)
       have j8:=aAM n eo
       obtain⟨Am,nm,cm,eM,jE,_⟩:=id HA5.out.ma
       have eM:q.M= .slice Am nm cm:=eM
       have bN:w5.cell? ⟨g,146,none⟩=some (.slice Am nm cm):=eM▸At.cm (p:={q with bb:=b5,cb:=hT}) HA5.out
       have de:=yH (show Arr w5 (Pl.away {q with bb:=b5,cb:=hT} B g) (.slice Am nm cm) n.main from eM▸HA5.out.ma)
       have dO:=yH (fI.mono (show n.b.length≤(n.object eo).b.length by omega))
       have cJ:=yH (link_any Am nm cm n.main n8 176 n.b.length w5 HA5.out (by have:=I2.len;omega) (by have:=I2.n7;omega) (by have:=I2.n18;omega) de.out dO.out (by have:=ar.out.len;omega) (by omega) (by omega) (by omega))
       obtain⟨k1,k2,k3,k4,k5,k6,k7,k8,k9,eN,fV,gJ⟩:=aDD I2 (fr:=176) n.b.length dO.out (by have:=ar.out.len;omega)
       have cH:=yH (show Mk.linked (n.object eo) n.b.length n8={(Mk.link (n.object eo) n.main n8 176 n.b.length).1 with main:=(Mk.link (n.object eo) n.main n8 176 n.b.length).2.1,h:={setN (Mk.link (n.object eo) n.main n8 176 n.b.length).1.h 11 (((Mk.link (n.object eo) n.main n8 176 n.b.length).2.1.getD 0 0:Nat):Int)with ta:=(((Mk.link (n.object eo) n.main n8 176 n.b.length).2.1.getLastD 0:Nat):Int),ti:=(((Mk.link (n.object eo) n.main n8 176 n.b.length).2.2:Nat):Int)}}from rfl)
       have bF:=yH gg
       clear gg fI eM jE
       rcases bI:Mk.link (n.object eo) n.main n8 176 n.b.length with⟨m6,aa,af⟩
       rw[bI]at k1 k2 k3 k4 k5 k6 k7 k8 k9 eN fV gJ cJ cH
       dsimp only at k1 k2 k3 k4 k5 k6 k7 k8 k9 eN fV gJ cH
       have ir:=yH k1
       have ex:=yH k2
       have iO:=yH k5
       have ih:=yH k8
       have cw:=yH eN
       have ah:=yH ((am.out.drew.below aZ.out).trans eV.out)
       have gs:=yH (((Path.refl g q wB).drew.below aZ.out).trans eV.out)
       unfold Linked at cJ
       clear k1 k2 k5 k6 k7 k8 k9 eN fV bI
       go_upto_region 28 with fail
       go_upto_region 29 with(first
        |(go_at_call 82;(refine cJ.out.mono ?_;rintro e w6 ⟨_,p6,rfl,⟨A6,n6,c6,rfl,hl6,hN⟩,cg,dv⟩;have dh:=yH (show Arr w6 (Pl.away p6 B g) (.slice A6 n6 c6) aa from⟨A6,n6,c6,rfl,hl6,hN⟩);have gp:=yH cg;have ff:=yH dv;have je:=At.cm cg;have hB:=At.fz cg 146;clear cg dv hN))
        |fail)
       have eB:=At.setM gp.out (.slice A6 n6 c6) aa dh.out
       have b6:=yH eB.1
       have gt:=yH (ah.out.trans (ff.out.trans eB.2))
       have gc:=yH (gs.out.trans (ff.out.trans eB.2))
       clear eB je hB bE bN
       generalize w6.setCell ⟨g,146,none⟩ (.slice A6 n6 c6)=w7 at*
       have gd:0<aa.length:=by
        rcases Nat.eq_zero_or_pos aa.length with h|h
        ·have A:=ex.out.le
         rw[h]at A
         rw[show rooms 0=0 from rfl]at A
         omega
        ·exact h
       have ep:=b6.out.ma
       obtain⟨bA,hbA,hu⟩:=aGa ep 0 (by omega) (aa.getD 0 0) rfl
       obtain⟨aF,rfl⟩: ∃n',n6=n'+1:=⟨n6-1,by omega⟩
       obtain⟨km,a2,el⟩:=aGa ep aF (by omega) (aa.getLastD 0) (aCB aa aF hl6)
       rw[hbA]at a2
       injection a2 with a2
       injection a2 with a2
       subst a2
       subst hbA
       have jv:aa.getLastD 0≤100000:=by
        have A:=aA6 ex.out (List.ne_nil_of_length_pos gd)
        omega
       have eA:=yH hl6
       obtain⟨f6,gL⟩: ∃x,x=aa.getD 0 0:=⟨_,rfl⟩
       obtain⟨l6,dF⟩: ∃x,x=aa.getLastD 0:=⟨_,rfl⟩
       rw[←gL]at hu
       rw[←dF]at el jv
       have gU:=yH gL
       have cx:=yH dF
       clear gL dF hl6 ep
       have bN:w7.cell? ⟨g,146,none⟩=some (.slice (some ⟨bA,0,none⟩) (aF+1) c6):=At.cm b6.out
       have ha:=At.cN b6.out 11 130 (by decide) rfl
       have ii:=At.fz b6.out 130
       go_region
       have bj:=yH (At.drew (At.setN b6.out 11 130 (by decide) rfl (f6:Int)))
       have gn:=yH ((gt.out.set 130 (.int .u64 (f6:Int))).drew)
       have gz:=yH ((gc.out.set 130 (.int .u64 (f6:Int))).drew)
       generalize (w7.setCell ⟨g,130,none⟩ (.int .u64 (f6:Int))).drew=w8 at*
       clear bN ha ii hu el
       have fn:aa.length=aF+1:=eA.out
       obtain⟨j5,bH,el⟩:=aGa bj.out.ma aF (by omega) (aa.getLastD 0) (aCB aa aF fn)
       injection bH with bH
       injection bH with bH
       subst bH
       rw[←cx.out]at el
       clear fn
       have bN:w8.cell? ⟨g,146,none⟩=some (.slice (some ⟨bA,0,none⟩) (aF+1) c6):=At.cm bj.out
       have i6:=At.cta bj.out
       have ix:=At.fz bj.out 139
       have hv:=At.cti bj.out
       have jb:=At.fz bj.out 140
       have j0:af≤256:=gJ
       have kd:aF≤25001:=by have A:=aGf ex.out (by omega);have Z:=eA.out;omega
       have jC:IntKind.i64.wrap (aF:Int)=(aF:Int):=by rw[IntKind.wrap_i64];omega
       have bs:IntKind.u32.wrap (l6:Int)=(l6:Int):=by rw[IntKind.wrap_u32];omega
       have jy:IntKind.u32.wrap (af:Int)=(af:Int):=by rw[IntKind.wrap_u32];omega
       go_wp2_with fail
       go_region
       have ey:=yH (show At (((w8.setCell ⟨g,139,none⟩ (.int .u32 (l6:Int))).setCell ⟨g,140,none⟩ (.int .u32 (af:Int))).drew) B g {p6 with M:= .slice (some ⟨bA,0,none⟩) (aF+1) c6} (Mk.linked (n.object eo) n.b.length n8)from by
        have A:=At.drew (At.setTi (At.setTa bj.out (l6:Int)) (af:Int))
        rw[cH.out,←gU.out,←cx.out]
        exact A)
       have ez:=yH (((gn.out.set 139 (.int .u32 (l6:Int))).set 140 (.int .u32 (af:Int))).drew)
       have fb:=yH (((gz.out.set 139 (.int .u32 (l6:Int))).set 140 (.int .u32 (af:Int))).drew)
       generalize ((w8.setCell ⟨g,139,none⟩ (.int .u32 (l6:Int))).setCell ⟨g,140,none⟩ (.int .u32 (af:Int))).drew=w9 at*
       clear bN i6 hv ix jb el jC bs jy
       obtain⟨g1,g2,g3,g4,g5,g6,g7⟩:=aBx I2 n.b.length n8 bF.out dO.out (by omega) (by have:=ar.out.len;omega)
       obtain⟨q9,i9⟩: ∃y,y=({p6 with M:= .slice (some ⟨bA,0,none⟩) (aF+1) c6}:Pl):=⟨_,rfl⟩
       rw[←i9]at ey ez fb
       clear i9
       generalize iW:Mk.linked (n.object eo) n.b.length n8=mL at*
       have iQ:=yH iW
       clear iW
       have ie:InvM n.b.length 0 mL:=⟨g1,fun k' hk'=>by rw[g4]at hk';exact(ar.out.dat k' hk').2.2.2.2,by omega⟩
       have gb:=yH (aAL ie n.b.length who (fun y hy=>by rw[g4];exact cs.out y hy) (by rw[aV.out];exact fi))
       have hM:=yH g4
       have bf:=yH g5
       have hG:=yH g7
       have jT:mL.b.length≤45100:=by omega
       have cq:=yH (b7.out.path fb.out)
       clear g1 g4 g5 g6 g7 I2
       go_wp2
       go_loopw [27] (fun a27 wr=> ∃(j:Nat) (Y:Pl),j≤i∧a27= .int .i64 (j:Int)∧Hid (At wr B g Y (Mk.markAll n.b.length mL (who.take j)))∧Hid (Path g p w2 Y wr)∧Hid (Side 3 1 wr g Y w2.heap.size A2 i c2 (iv who))) (fun a _=>i-(intOf a).toNat)
       case atStart=>exact⟨0,q9,Nat.zero_le _,rfl,yH (by rw[List.take_zero];exact ey.out),ez,cq⟩
       case round=>
        obtain⟨j,Y,jV,rfl,aT,ac,J⟩:=hrel
        by_cases bt:j<i
        ·have eR:j<who.length:=by rw[aV.out];exact bt
         try clear cB
         try clear eI
         try clear fB
         try clear cp
         try clear cF
         try clear dI
         try clear bX
         try clear ea
         try clear cT
         try clear ew
         try clear eK
         try clear eW
         try clear HNd
         try clear a1
         try clear bL
         try clear cQ
         try clear ay
         try clear e6
         try clear am
         try clear b7
         try clear bZ
         try clear a6
         try clear gH
         try clear fN
         try clear fo
         try clear cL
         try clear cA
         try clear fd
         try clear gf
         try clear cR
         try clear dW
         try clear dP
         try clear eZ
         try clear aZ
         try clear cK
         try clear HA5
         try clear eV
         try clear gV
         try clear de
         try clear dO
         try clear cJ
         try clear ir
         try clear ex
         try clear iO
         try clear ih
         try clear cw
         try clear ah
         try clear gs
         try clear dh
         try clear gp
         try clear ff
         try clear b6
         try clear gt
         try clear gc
         try clear eA
         try clear gU
         try clear cx
         try clear bj
         try clear gn
         try clear gz
         try clear ey
         try clear ez
         try clear fb
         try clear cq
         try clear cc
         try clear bY
         try clear dK
         try clear cH
         try clear gq
         try clear ic
         try clear iQ
         try clear ee
         try clear aE
         try clear HT
         try clear bR
         try clear bF
         try clear cM
         try clear en
         try clear fc
         try clear dH
         try clear a5
         try clear HI
         try clear f7
         obtain⟨u1,u2,u3,u4,u5,u6,u7⟩:=gb.out j (Nat.le_of_lt eR)
         have ci:=yH (aBk n.b.length mL who j eR)
         have gQ:who.getD j 0=who[j]:=by rw[List.getD_eq_getElem?_getD,List.getElem?_eq_getElem eR];rfl
         have aJ:who[j]<(Mk.markAll n.b.length mL (who.take j)).datas.length:=by rw[u4,hM.out];exact cs.out _ (List.getElem_mem _)
         have ji:(Mk.markAll n.b.length mL (who.take j)).b.length≤80000:=by omega
         clear u2 u3 u4 u5 u6 u7
         have io:=aEf J.out.own j eR
         obtain⟨bw,eu,aH⟩:=io
         subst eu
         rw[gQ]at aH
         obtain⟨x,gX⟩: ∃y,y=who[j]:=⟨_,rfl⟩
         have he:=yH (gQ.trans gX.symm)
         rw[←gX]at aH aJ ci
         clear gX gQ
         generalize Mk.markAll n.b.length mL (who.take j)=R at*
         have ip:=yH aJ
         obtain⟨A,Z,h3,h4,h5,h6,h7,h8⟩:=aCh u1 n.b.length x aJ
         obtain⟨e1,e2,e3,e4,e5⟩:=u1.inv.dat _ (show Mk.kn R x∈(Mk.bump R).datas from aGn aJ)
         have e1:(Mk.kn R x).at_+64≤R.b.length:=e1
         have e4:Chain R.b.length (Mk.kn R x).arrays ((Mk.kn R x).count-1):=e4
         have jS:=u1.cnt _ (aGn aJ)
         have a3:Y.dl.length=R.datas.length:=by rw[←aT.out.dm,List.length_map]
         obtain⟨V,fE,br,d0,d1,d2,d3,d4⟩:=aBp aT.out.dr x (by rw[a3];exact aJ)
         have di:=aT.out.da _ (List.getElem_mem (by rw[a3];exact aJ:x<Y.dl.length))
         rw[kn_at aT.out.dm _ (by rw[a3];exact aJ)]at d0 d1 d2 d3 di
         obtain⟨Av,nv,cv,ev,_,_⟩:=id di
         rw[ev]at d4 di
         have jw:=yH di
         obtain⟨aO,bT⟩: ∃y,Y.nd=y:=⟨_,rfl⟩
         have az:wr.drew.cell? ⟨g,144,none⟩=some (.slice (some ⟨V,0,none⟩) aO Y.cd):=by rw[←fE,←bT];exact At.cd (At.drew aT.out)
         have kg:x<aO:=by rw[←bT,←aAy aT.out.dr,a3];exact aJ
         have jH:aO≤200000:=by
          have h9:=u1.inv.dn
          have h9:R.datas.length≤R.b.length:=h9
          rw[←bT,←aAy aT.out.dr,a3]
          omega
         clear bT a3 di ev fE
         have iL:Mk.kn R x=⟨(Mk.kn R x).text,(Mk.kn R x).at_,(Mk.kn R x).slot,(Mk.kn R x).count,(Mk.kn R x).arrays⟩:=rfl
         have ik:=yH iL
         have eJ:Mk.hitched n.b.length R x=if(Mk.kn R x).count=0 then({R with b:=put8 R.b ((Mk.kn R x).at_+40) (n.b.length:Nat)},(Mk.kn R x).arrays)else((Mk.link R (Mk.kn R x).arrays ((Mk.kn R x).count-1) ((Mk.kn R x).at_+48) n.b.length).1,(Mk.link R (Mk.kn R x).arrays ((Mk.kn R x).count-1) ((Mk.kn R x).at_+48) n.b.length).2.1):=rfl
         clear iL
         generalize (Mk.kn R x).text=tx at*
         generalize (Mk.kn R x).at_=ax at*
         generalize (Mk.kn R x).slot=sx at*
         generalize (Mk.kn R x).count=nx at*
         generalize (Mk.kn R x).arrays=rx at*
         generalize fs:Mk.hitched n.b.length R x=jJ at*
         obtain⟨aW,aX⟩:=jJ
         have fK:=yH fs
         clear fs
         dsimp only at A Z h3 h4 h5 h6 h7 h8
         obtain⟨X,hX⟩: ∃X,T tx=X:=⟨_,rfl⟩
         have jh:=yH hX
         rw[hX]at d0
         clear hX
         have dB:=yH (show nx≤200000 by omega)
         have f0:wr.drew.cell? ⟨V,x*5,none⟩=some (.string X):=d0
         have f1:wr.drew.cell? ⟨V,x*5+1,none⟩=some (.int .u64 (ax:Int)):=d1
         have f2:wr.drew.cell? ⟨V,x*5+2,none⟩=some (.int .i64 (sx:Int)):=d2
         have f3:wr.drew.cell? ⟨V,x*5+3,none⟩=some (.int .i64 (nx:Int)):=d3
         have f4:wr.drew.cell? ⟨V,x*5+4,none⟩=some (.slice Av nv cv):=d4
         have f5:wr.drew.cell? ⟨bw,j,none⟩=some (.int .i64 (x:Int)):=aH
         have bW:=yH fun(W:World) (hW:Below wr.heap.size wr W)=>show W.cell? ⟨g,144,none⟩=some (.slice (some ⟨V,0,none⟩) aO Y.cd)∧W.cell? ⟨V,x*5,none⟩=some (.string X)∧W.cell? ⟨V,x*5+1,none⟩=some (.int .u64 (ax:Int))∧W.cell? ⟨V,x*5+2,none⟩=some (.int .i64 (sx:Int))∧W.cell? ⟨V,x*5+3,none⟩=some (.int .i64 (nx:Int))∧W.cell? ⟨V,x*5+4,none⟩=some (.slice Av nv cv)∧W.cell? ⟨bw,j,none⟩=some (.int .i64 (x:Int))from
          ⟨(hW.cell (p:=⟨g,144,none⟩) aT.out.st.st.lt).trans az,(hW.cell (p:=⟨V,x*5,none⟩) br).trans d0,(hW.cell (p:=⟨V,x*5+1,none⟩) br).trans d1,(hW.cell (p:=⟨V,x*5+2,none⟩) br).trans d2,(hW.cell (p:=⟨V,x*5+3,none⟩) br).trans d3,(hW.cell (p:=⟨V,x*5+4,none⟩) br).trans d4,(hW.cell (p:=⟨bw,j,none⟩) (aAH aH)).trans aH⟩
         have dC:=yH (show Below wr.heap.size wr (wr.alloc (.cells #[.string {data:= #[]},.int .u64 0,.int .i64 0,.int .i64 0,.slice none 0 0] 173)).drew from((Below.refl _ _).alloc (yR _) _).drew)
         have bk:=yH (show Below wr.heap.size wr (wr.alloc (.cells #[.string X,.int .u64 (ax:Int),.int .i64 (sx:Int),.int .i64 (nx:Int),.slice Av nv cv] 173)).drew from((Below.refl _ _).alloc (yR _) _).drew)
         go_upto_region 34 with fail
         go_region_held3 (fun W=>W.cell? ⟨g,144,none⟩=some (.slice (some ⟨V,0,none⟩) aO Y.cd)∧W.cell? ⟨V,x*5,none⟩=some (.string X)∧W.cell? ⟨V,x*5+1,none⟩=some (.int .u64 (ax:Int))∧W.cell? ⟨V,x*5+2,none⟩=some (.int .i64 (sx:Int))∧W.cell? ⟨V,x*5+3,none⟩=some (.int .i64 (nx:Int))∧W.cell? ⟨V,x*5+4,none⟩=some (.slice Av nv cv)∧W.cell? ⟨bw,j,none⟩=some (.int .i64 (x:Int))) (first|(with_reducible exact⟨az,f0,f1,f2,f3,f4,f5⟩)|(exact bW.out _ dC.out)|(exact bW.out _ bk.out)|go_keep) (fail)
         have RK:=yH (Blk.drew (Blk.new wr [.string X,.int .u64 (ax:Int),.int .i64 (sx:Int),.int .i64 (nx:Int),.slice Av nv cv] 173))
         generalize (wr.alloc (.cells #[.string X,.int .u64 (ax:Int),.int .i64 (sx:Int),.int .i64 (nx:Int),.slice Av nv cv] 173)).drew=wk at*
         obtain⟨t,eF⟩: ∃y,y=wr.heap.size:=⟨_,rfl⟩
         rw[←eF]at RK⊢
         have d6:=yH (show ∀k',Y.foot g k'→k'≠t from fun k' h e=>by have:=(At.lt aT.out k' h).2;omega)
         have ke:=yH (show w2.heap.size≤t by rw[eF];exact ac.out.kept.size)
         have gG:=yH eF
         have cX:=yH (At.below aT.out bk.out)
         have kk:=yH (ac.out.below bk.out)
         have dA:=yH (aAX jw.out (Path.of_below (g:=g) (p:=Y) bk.out))
         have jm:=yH (J.out.below bk.out)
         clear az f0 f1 f2 f3 f4 f5 d0 d1 d2 d3 d4 aH bW dC eF
         have k3:=RK.out.cell (i:=3) rfl
         have ia:=RK.out.cell (i:=1) rfl
         have k4:=RK.out.cell (i:=4) rfl
         have z4:=RK.out.frozen 4
         have jO:=dB.out
         have kb:ax≤100000:=by omega
         rcases Nat.eq_zero_or_pos nx with eT|eT
         ·have jt:((nx:Int)==0)=true:=by simp[eT]
          have hh:=eJ
          rw[if_pos eT]at hh
          obtain⟨dD,bI⟩:=Prod.mk.inj hh
          have gu:=yH dD
          have gW:=yH bI
          clear hh eJ eT dD bI
          go_upto_region 38 with(first
           |(go_at_call 83;(refine(aAW (ax+40) _ (by omega) _ _ cX.out (by omega) (by omega)).mono ?_);rintro e bP ⟨rfl,cg,dv⟩;have iu:=yH cg;have es:=yH dv;clear cg dv)
           |fail)
          have eq:=yH (show At bP B g Y aW from by rw[gu.out];exact iu.out)
          have dp:=yH (Path.trans (Path.of_below (g:=g) (p:=Y) bk.out) es.out)
          have bg:=yH (show ¬Y.foot g t from fun h=>d6.out t h rfl)
          have aq:=yH (show Blk bP t [.string X,.int .u64 (ax:Int),.int .i64 (sx:Int),.int .i64 (nx:Int),.slice Av nv cv] 173 from(es.out.kept.block t RK.out.lt bg.out).trans RK.out)
          have cj:=yH (show Arr bP (Y.away B g) (.slice Av nv cv) aX from by rw[gW.out];exact aAX dA.out es.out)
          have dX:=yH (show aW.datas.length=R.datas.length from congrArg List.length h5)
          clear k3 ia k4 z4
          have ap:=yH (aq.out.set_ 3 (.int .i64 ((nx:Int)+1)))
          have ec:=yH (At.setK eq.out aq.out (bg.out) 3 (.int .i64 ((nx:Int)+1)))
          have dy:=yH (Path.side dp.out (KeptF.set1 bP t 3 (.int .i64 ((nx:Int)+1))) (fun k' A=>by rw[show k'=t from A,gG.out];exact yR _))
          have a8:=yH ((aCJ cj.out aq.out).kept (KeptF.set1 bP t 3 (.int .i64 ((nx:Int)+1))) (fun b _ A Z=>A (.inr Z)) (fun b _ A Z=>A (.inl Z)))
          have r3:=aq.out.cell (i:=3) rfl
          have gC:=aq.out.frozen 3
          have r1:=aq.out.cell (i:=1) rfl
          have v1:=ap.out.cell (i:=1) rfl
          have v3:=ap.out.cell (i:=3) rfl
          have hp:nx≤200000:=dB.out
          have hs:ax+64≤aW.b.length∧aW.b.length≤90000:=⟨by omega,by omega⟩
          go_upto_region 40 with(first
           |(go_at_call 83;(refine(aAW (ax+56) _ (by omega) _ _ ec.out (by omega) (by omega)).mono ?_);rintro e G ⟨rfl,dw,eg⟩;have E:=yH dw;have aM:=yH eg;clear dw eg)
           |fail)
          have av:=yH (show Blk G t [.string X,.int .u64 (ax:Int),.int .i64 (sx:Int),.int .i64 ((nx:Int)+1),.slice Av nv cv] 173 from(aM.out.kept.block t ap.out.lt bg.out).trans ap.out)
          have b3:=yH (aAX a8.out aM.out)
          have aU:=yH (dy.out.trans aM.out)
          have ae:x<Y.dl.length:=by
           have e:=congrArg List.length E.out.dm
           rw[List.length_map]at e
           have e:Y.dl.length=aW.datas.length:=e
           rw[e,dX.out]
           exact ip.out
          obtain⟨H,ab,hH,_,_,_,_,_⟩:=aBp (At.drew E.out).dr x ae
          obtain⟨bd,aA⟩: ∃y,Y.nd=y:=⟨_,rfl⟩
          have s0:G.drew.cell? ⟨g,144,none⟩=some (.slice (some ⟨H,0,none⟩) bd Y.cd):=by rw[←ab,←aA];exact At.cd (At.drew E.out)
          have jF:x<bd:=by rw[←aA,←aAy E.out.dr];exact ae
          clear aA
          obtain⟨ju,ad,ba⟩:=aEf (J.out.path aU.out).own j (by rw[aV.out];exact bt)
          injection ad with ad
          injection ad with ad
          subst ad
          rw[he.out]at ba
          have s1:G.drew.cell? ⟨bw,j,none⟩=some (.int .i64 (x:Int)):=ba
          have s2:G.drew.cell? ⟨t,0,none⟩=some (.string X):=av.out.cell (i:=0) rfl
          have s3:G.drew.cell? ⟨t,1,none⟩=some (.int .u64 (ax:Int)):=av.out.cell (i:=1) rfl
          have s4:G.drew.cell? ⟨t,2,none⟩=some (.int .i64 (sx:Int)):=av.out.cell (i:=2) rfl
          have s5:G.drew.cell? ⟨t,3,none⟩=some (.int .i64 ((nx:Int)+1)):=av.out.cell (i:=3) rfl
          have s6:G.drew.cell? ⟨t,4,none⟩=some (.slice Av nv cv):=av.out.cell (i:=4) rfl
          have b8:=yH (aGw (ab▸(At.drew E.out).dr) x (by rw[aAy E.out.dr]at ae;exact ae))
          have ej:knC ⟨tx,ax,sx,nx+1,aX⟩ (.slice Av nv cv)=[.string X,.int .u64 (ax:Int),.int .i64 (sx:Int),.int .i64 ((nx:Int)+1),.slice Av nv cv]:=by unfold knC;rw[jh.out];rfl
          have bl:=At.setD (At.drew E.out) x ae H ab ⟨tx,ax,sx,nx+1,aX⟩ (.slice Av nv cv) (show Arr G.drew (Pl.away Y B g) _ aX from b3.out)
          rw[ej]at bl
          have dt:=yH bl.1
          have bB:=yH (aU.out.drew.trans bl.2)
          have bM:Y.foot g H:= .inr (.inr (.inl (by rw[ab];rfl)))
          have aE:=yH (show(fun W:World=>W.cell? ⟨g,144,none⟩=some (.slice (some ⟨H,0,none⟩) bd Y.cd)∧W.cell? ⟨bw,j,none⟩=some (.int .i64 (x:Int))∧W.cell? ⟨t,0,none⟩=some (.string X)∧W.cell? ⟨t,1,none⟩=some (.int .u64 (ax:Int))∧W.cell? ⟨t,2,none⟩=some (.int .i64 (sx:Int))∧W.cell? ⟨t,3,none⟩=some (.int .i64 ((nx:Int)+1))∧W.cell? ⟨t,4,none⟩=some (.slice Av nv cv)) (G.drew.setCells H (x*5) [.string X,.int .u64 (ax:Int),.int .i64 (sx:Int),.int .i64 ((nx:Int)+1),.slice Av nv cv])from by
           have al: ∀k',k'<G.heap.size→k'≠H→ ∀o,(G.drew.setCells H (x*5) [.string X,.int .u64 (ax:Int),.int .i64 (sx:Int),.int .i64 ((nx:Int)+1),.slice Av nv cv]).cell? ⟨k',o,none⟩=G.drew.cell? ⟨k',o,none⟩:=fun k' A Z o=>World.cell?_setCells_out H _ _ _ _ (fun h3=>absurd h3 Z)
           have aN:t≠H:=fun e=>bg.out (e▸bM)
           have fT:g≠H:=fun e=>(E.out.dg H (by rw[ab];rfl)).1 e.symm
           have gv:bw≠H:=fun e=>(J.out.path aU.out).off bw rfl (e▸bM)
           have aK:=av.out.lt
           have gP:=E.out.st.st.lt
           have bs:=aAH ba
           exact⟨(al g gP fT _).trans s0,(al bw bs gv _).trans s1,(al t aK aN _).trans s2,(al t aK aN _).trans s3,(al t aK aN _).trans s4,(al t aK aN _).trans s5,(al t aK aN _).trans s6⟩)
          clear bl ba r1 r3 gC v1 v3
          refine wp_region_noPanic ?_
          refine wp_region_held_drew (S:=fun W:World=>W.cell? ⟨g,144,none⟩=some (.slice (some ⟨H,0,none⟩) bd Y.cd)∧W.cell? ⟨bw,j,none⟩=some (.int .i64 (x:Int))∧W.cell? ⟨t,0,none⟩=some (.string X)∧W.cell? ⟨t,1,none⟩=some (.int .u64 (ax:Int))∧W.cell? ⟨t,2,none⟩=some (.int .i64 (sx:Int))∧W.cell? ⟨t,3,none⟩=some (.int .i64 ((nx:Int)+1))∧W.cell? ⟨t,4,none⟩=some (.slice Av nv cv)) (by kernel_rfl) (by exact⟨s0,s1,s2,s3,s4,s5,s6⟩) (fun hHeld=>?_)
          refine tq 0 264 rfl (fun W hSw=>by go_simp;try (with_reducible rfl)) ?_
          try simp only[Act.put,sA,sZ,sS]
          refine tq 1 265 rfl (fun W hSw=>by go_simp;try (with_reducible rfl)) ?_
          try simp only[Act.put,sA,sZ,sS]
          refine tq 2 266 rfl (fun W hSw=>by go_simp;try (with_reducible rfl)) ?_
          try simp only[Act.put,sA,sZ,sS]
          refine tq 3 267 rfl (fun W hSw=>by have bV:=hSw.1;go_simp;try (with_reducible rfl)) ?_
          try simp only[Act.put,sA,sZ,sS]
          refine tq 4 268 rfl (fun W hSw=>by go_simp;try (with_reducible rfl)) ?_
          try simp only[Act.put,sA,sZ,sS]
          refine tq 5 269 rfl (fun W hSw=>by go_simp;try (with_reducible rfl)) ?_
          try simp only[Act.put,sA,sZ,sS]
          refine tq 6 270 rfl (fun W hSw=>by go_simp;try (with_reducible rfl)) ?_
          try simp only[Act.put,sA,sZ,sS]
          refine tq 7 271 rfl (fun W hSw=>by have bV:=hSw.2.1;go_simp;try (with_reducible rfl)) ?_
          try simp only[Act.put,sA,sZ,sS]
          refine tq 8 272 rfl (fun W hSw=>by have bV:=hSw;go_simp;try (with_reducible rfl)) ?_
          try simp only[Act.put,sA,sZ,sS]
          refine tq 9 273 rfl (fun W hSw=>by go_simp;try (with_reducible rfl)) ?_
          try simp only[Act.put,sA,sZ,sS]
          refine rd 10 rfl (fun K d=>?_)
          refine aB9 (o:=⟨none,_,_,_,_,_⟩) rfl 173 (.tmp 273) (.tmp 272) rfl H (x*5) #[.string X,.int .u64 (ax:Int),.int .i64 (sx:Int),.int .i64 ((nx:Int)+1),.slice Av nv cv] rfl rfl b8.out knI (by simp[Value.oneCell']) ?_
          refine d.out _ _ (by exact aE.out) (fun hHeld=>?_)
          clear d K
          try simp only[Act.put,sA,sZ,sS]
          refine wpAnyH_done (by kernel_rfl) ?_ _
          refine NoPanic.normal ?_
          try go_wp2_with fail
          go_roundw
          case measure=>simp[intOf];omega
          case rel=>
           refine⟨j+1,{Y with dl:=Y.dl.set x (⟨tx,ax,sx,nx+1,aX⟩,.slice Av nv cv)},by omega,by go_num,yH ?_,yH (ac.out.trans bB.out),yH ?_⟩
           ·rw[ci.out,aC3,fK.out,ik.out]
            exact dt.out
           ·exact J.out.path bB.out
         ·have jt:((nx:Int)==0)=false:=by simp;omega
          have hh:=eJ
          rw[if_neg (by omega)]at hh
          obtain⟨dD,bI⟩:=Prod.mk.inj hh
          have gu:=yH dD
          have gW:=yH bI
          have fh:=yH fun(z:Int) (hz:z=((nx-1:Nat):Int))=>show Calls Tryz.prog 82 #[.pointer (some ⟨g,0,none⟩),.slice Av nv cv,.int .i64 z,.int .u64 ((ax+48:Nat):Int),.int .u64 (n.b.length:Int)] wk (Linked B g Y (Mk.link R rx (nx-1) (ax+48) n.b.length) wk)from by
           subst hz
           exact link_any Av nv cv rx (nx-1) (ax+48) n.b.length wk cX.out (by omega) (show 0≤R.h.N 7∧R.h.N 7≤1000000 by have h:=u1.inv.n7;have h:0≤R.h.N 7∧R.h.N 7≤(R.b.length:Int):=h;omega) (show 0≤R.h.N 18∧R.h.N 18≤1000000 by have h:=u1.inv.n18;have h:0≤R.h.N 18∧R.h.N 18≤(R.b.length:Int):=h;omega) dA.out e4 (by omega) (by omega) (by omega) (by omega)
          unfold Linked at fh
          clear hh eJ dD bI
          go_upto_region 38 with(first
           |(go_at_call 82;(refine(fh.out _ (by omega)).mono ?_);rintro e wl ⟨_,q8,rfl,⟨A7,n7,c7,rfl,hV,iK⟩,iB,eQ⟩;have iS:=yH (show Arr wl (Pl.away q8 B g) (.slice A7 n7 c7) aX from gW.out▸⟨A7,n7,c7,rfl,hV,iK⟩);have js:=yH (show At wl B g q8 aW from gu.out▸iB);have jz:=yH eQ;have bg:=yH (show ¬q8.foot g t from fun h=>(eQ.foot t h).elim (fun h=>d6.out t h rfl) (fun h=>absurd RK.out.lt (by omega)));have et:=yH (show Blk wl t [.string X,.int .u64 (ax:Int),.int .i64 (sx:Int),.int .i64 (nx:Int),.slice Av nv cv] 173 from(eQ.kept.block t RK.out.lt (fun h=>d6.out t h rfl)).trans RK.out);have l4:=et.out.cell (i:=4) rfl;have jA:=et.out.frozen 4;clear hV iK iB eQ)
           |fail)
          have aq:=yH (show Blk (wl.setCell ⟨t,4,none⟩ (.slice A7 n7 c7)) t [.string X,.int .u64 (ax:Int),.int .i64 (sx:Int),.int .i64 (nx:Int),.slice A7 n7 c7] 173 from et.out.set_ 4 (.slice A7 n7 c7))
          have eq:=yH (At.setK js.out et.out bg.out 4 (.slice A7 n7 c7))
          have dp:=yH (Path.side (Path.trans (Path.of_below (g:=g) (p:=Y) bk.out) jz.out) (KeptF.set1 wl t 4 (.slice A7 n7 c7)) (fun k' A=>by rw[show k'=t from A,gG.out];exact yR _))
          have cj:=yH ((aCJ iS.out et.out).kept (KeptF.set1 wl t 4 (.slice A7 n7 c7)) (fun b _ A Z=>A (.inr Z)) (fun b _ A Z=>A (.inl Z)))
          have dX:=yH (show aW.datas.length=R.datas.length from congrArg List.length h5)
          generalize wl.setCell ⟨t,4,none⟩ (.slice A7 n7 c7)=bP at*
          clear k3 ia k4 z4 l4 jA
          have ap:=yH (aq.out.set_ 3 (.int .i64 ((nx:Int)+1)))
          have ec:=yH (At.setK eq.out aq.out (bg.out) 3 (.int .i64 ((nx:Int)+1)))
          have dy:=yH (Path.side dp.out (KeptF.set1 bP t 3 (.int .i64 ((nx:Int)+1))) (fun k' A=>by rw[show k'=t from A,gG.out];exact yR _))
          have a8:=yH ((aCJ cj.out aq.out).kept (KeptF.set1 bP t 3 (.int .i64 ((nx:Int)+1))) (fun b _ A Z=>A (.inr Z)) (fun b _ A Z=>A (.inl Z)))
          have r3:=aq.out.cell (i:=3) rfl
          have gC:=aq.out.frozen 3
          have r1:=aq.out.cell (i:=1) rfl
          have v1:=ap.out.cell (i:=1) rfl
          have v3:=ap.out.cell (i:=3) rfl
          have hp:nx≤200000:=dB.out
          have hs:ax+64≤aW.b.length∧aW.b.length≤90000:=⟨by omega,by omega⟩
          go_upto_region 40 with(first
           |(go_at_call 83;(refine(aAW (ax+56) _ (by omega) _ _ ec.out (by omega) (by omega)).mono ?_);rintro e G ⟨rfl,dw,eg⟩;have E:=yH dw;have aM:=yH eg;clear dw eg)
           |fail)
          have av:=yH (show Blk G t [.string X,.int .u64 (ax:Int),.int .i64 (sx:Int),.int .i64 ((nx:Int)+1),.slice A7 n7 c7] 173 from(aM.out.kept.block t ap.out.lt bg.out).trans ap.out)
          have b3:=yH (aAX a8.out aM.out)
          have aU:=yH (dy.out.trans aM.out)
          have ae:x<q8.dl.length:=by
           have e:=congrArg List.length E.out.dm
           rw[List.length_map]at e
           have e:q8.dl.length=aW.datas.length:=e
           rw[e,dX.out]
           exact ip.out
          obtain⟨H,ab,hH,_,_,_,_,_⟩:=aBp (At.drew E.out).dr x ae
          obtain⟨bd,aA⟩: ∃y,q8.nd=y:=⟨_,rfl⟩
          have s0:G.drew.cell? ⟨g,144,none⟩=some (.slice (some ⟨H,0,none⟩) bd q8.cd):=by rw[←ab,←aA];exact At.cd (At.drew E.out)
          have jF:x<bd:=by rw[←aA,←aAy E.out.dr];exact ae
          clear aA
          obtain⟨ju,ad,ba⟩:=aEf (J.out.path aU.out).own j (by rw[aV.out];exact bt)
          injection ad with ad
          injection ad with ad
          subst ad
          rw[he.out]at ba
          have s1:G.drew.cell? ⟨bw,j,none⟩=some (.int .i64 (x:Int)):=ba
          have s2:G.drew.cell? ⟨t,0,none⟩=some (.string X):=av.out.cell (i:=0) rfl
          have s3:G.drew.cell? ⟨t,1,none⟩=some (.int .u64 (ax:Int)):=av.out.cell (i:=1) rfl
          have s4:G.drew.cell? ⟨t,2,none⟩=some (.int .i64 (sx:Int)):=av.out.cell (i:=2) rfl
          have s5:G.drew.cell? ⟨t,3,none⟩=some (.int .i64 ((nx:Int)+1)):=av.out.cell (i:=3) rfl
          have s6:G.drew.cell? ⟨t,4,none⟩=some (.slice A7 n7 c7):=av.out.cell (i:=4) rfl
          have b8:=yH (aGw (ab▸(At.drew E.out).dr) x (by rw[aAy E.out.dr]at ae;exact ae))
          have ej:knC ⟨tx,ax,sx,nx+1,aX⟩ (.slice A7 n7 c7)=[.string X,.int .u64 (ax:Int),.int .i64 (sx:Int),.int .i64 ((nx:Int)+1),.slice A7 n7 c7]:=by unfold knC;rw[jh.out];rfl
          have bl:=At.setD (At.drew E.out) x ae H ab ⟨tx,ax,sx,nx+1,aX⟩ (.slice A7 n7 c7) (show Arr G.drew (Pl.away q8 B g) _ aX from b3.out)
          rw[ej]at bl
          have dt:=yH bl.1
          have bB:=yH (aU.out.drew.trans bl.2)
          have bM:q8.foot g H:= .inr (.inr (.inl (by rw[ab];rfl)))
          have aE:=yH (show(fun W:World=>W.cell? ⟨g,144,none⟩=some (.slice (some ⟨H,0,none⟩) bd q8.cd)∧W.cell? ⟨bw,j,none⟩=some (.int .i64 (x:Int))∧W.cell? ⟨t,0,none⟩=some (.string X)∧W.cell? ⟨t,1,none⟩=some (.int .u64 (ax:Int))∧W.cell? ⟨t,2,none⟩=some (.int .i64 (sx:Int))∧W.cell? ⟨t,3,none⟩=some (.int .i64 ((nx:Int)+1))∧W.cell? ⟨t,4,none⟩=some (.slice A7 n7 c7)) (G.drew.setCells H (x*5) [.string X,.int .u64 (ax:Int),.int .i64 (sx:Int),.int .i64 ((nx:Int)+1),.slice A7 n7 c7])from by
           have al: ∀k',k'<G.heap.size→k'≠H→ ∀o,(G.drew.setCells H (x*5) [.string X,.int .u64 (ax:Int),.int .i64 (sx:Int),.int .i64 ((nx:Int)+1),.slice A7 n7 c7]).cell? ⟨k',o,none⟩=G.drew.cell? ⟨k',o,none⟩:=fun k' A Z o=>World.cell?_setCells_out H _ _ _ _ (fun h3=>absurd h3 Z)
           have aN:t≠H:=fun e=>bg.out (e▸bM)
           have fT:g≠H:=fun e=>(E.out.dg H (by rw[ab];rfl)).1 e.symm
           have gv:bw≠H:=fun e=>(J.out.path aU.out).off bw rfl (e▸bM)
           have aK:=av.out.lt
           have gP:=E.out.st.st.lt
           have bs:=aAH ba
           exact⟨(al g gP fT _).trans s0,(al bw bs gv _).trans s1,(al t aK aN _).trans s2,(al t aK aN _).trans s3,(al t aK aN _).trans s4,(al t aK aN _).trans s5,(al t aK aN _).trans s6⟩)
          clear bl ba r1 r3 gC v1 v3
          refine wp_region_noPanic ?_
          refine wp_region_held_drew (S:=fun W:World=>W.cell? ⟨g,144,none⟩=some (.slice (some ⟨H,0,none⟩) bd q8.cd)∧W.cell? ⟨bw,j,none⟩=some (.int .i64 (x:Int))∧W.cell? ⟨t,0,none⟩=some (.string X)∧W.cell? ⟨t,1,none⟩=some (.int .u64 (ax:Int))∧W.cell? ⟨t,2,none⟩=some (.int .i64 (sx:Int))∧W.cell? ⟨t,3,none⟩=some (.int .i64 ((nx:Int)+1))∧W.cell? ⟨t,4,none⟩=some (.slice A7 n7 c7)) (by kernel_rfl) (by exact⟨s0,s1,s2,s3,s4,s5,s6⟩) (fun hHeld=>?_)
          refine tq 0 264 rfl (fun W hSw=>by go_simp;try (with_reducible rfl)) ?_
          try simp only[Act.put,sA,sZ,sS]
          refine tq 1 265 rfl (fun W hSw=>by go_simp;try (with_reducible rfl)) ?_
          try simp only[Act.put,sA,sZ,sS]
          refine tq 2 266 rfl (fun W hSw=>by go_simp;try (with_reducible rfl)) ?_
          try simp only[Act.put,sA,sZ,sS]
          refine tq 3 267 rfl (fun W hSw=>by have bV:=hSw.1;go_simp;try (with_reducible rfl)) ?_
          try simp only[Act.put,sA,sZ,sS]
          refine tq 4 268 rfl (fun W hSw=>by go_simp;try (with_reducible rfl)) ?_
          try simp only[Act.put,sA,sZ,sS]
          refine tq 5 269 rfl (fun W hSw=>by go_simp;try (with_reducible rfl)) ?_
          try simp only[Act.put,sA,sZ,sS]
          refine tq 6 270 rfl (fun W hSw=>by go_simp;try (with_reducible rfl)) ?_
          try simp only[Act.put,sA,sZ,sS]
          refine tq 7 271 rfl (fun W hSw=>by have bV:=hSw.2.1;go_simp;try (with_reducible rfl)) ?_
          try simp only[Act.put,sA,sZ,sS]
          refine tq 8 272 rfl (fun W hSw=>by have bV:=hSw;go_simp;try (with_reducible rfl)) ?_
          try simp only[Act.put,sA,sZ,sS]
          refine tq 9 273 rfl (fun W hSw=>by go_simp;try (with_reducible rfl)) ?_
          try simp only[Act.put,sA,sZ,sS]
          refine rd 10 rfl (fun K d=>?_)
          refine aB9 (o:=⟨none,_,_,_,_,_⟩) rfl 173 (.tmp 273) (.tmp 272) rfl H (x*5) #[.string X,.int .u64 (ax:Int),.int .i64 (sx:Int),.int .i64 ((nx:Int)+1),.slice A7 n7 c7] rfl rfl b8.out knI (by simp[Value.oneCell']) ?_
          refine d.out _ _ (by exact aE.out) (fun hHeld=>?_)
          clear d K
          try simp only[Act.put,sA,sZ,sS]
          refine wpAnyH_done (by kernel_rfl) ?_ _
          refine NoPanic.normal ?_
          try go_wp2_with fail
          go_roundw
          case measure=>simp[intOf];omega
          case rel=>
           refine⟨j+1,{q8 with dl:=q8.dl.set x (⟨tx,ax,sx,nx+1,aX⟩,.slice A7 n7 c7)},by omega,by go_num,yH ?_,yH (ac.out.trans bB.out),yH ?_⟩
           ·rw[ci.out,aC3,fK.out,ik.out]
            exact dt.out
           ·exact J.out.path bB.out
        ·obtain rfl:j=i:=by omega
         obtain⟨u1,u2,u3,u4,u5,u6,u7⟩:=gb.out j (by rw[aV.out];exact yR _)
         have dR:who.take j=who:=List.take_of_length_le (by rw[aV.out];exact yR _)
         have gr:=aT.out
         rw[dR]at u3 u5 u7 gr
         have fF:m.h.N 8=(n8:Int):=d7.out.n8.symm.trans bF.out
         have ed:(m.h.N 8).toNat=n8:=by rw[fF];exact Int.toNat_natCast n8
         have gD:=yH (show Mk.grown m L real mono K=Mk.markAll n.b.length mL who from by
          unfold Mk.grown
          rw[gq.out]
          dsimp only
          rw[aE.out,ee.out,←ic.out,ed,iQ.out])
         have iI:=yH ed
         clear ed fF dR u1 u2 u4 u6
         generalize Mk.markAll n.b.length mL who=mf at*
         have dz:=yH gr
         have iF:mf.b.length≤80000:=by omega
         have fm:mf.C=m.C:=u5.trans (bf.out.trans d7.out.C)
         have dJ:=yH (show mf.h.N 8=(n8:Int)from u7.trans (hG.out.trans bF.out))
         have d5:wr.cell? ⟨g,143,none⟩=some (.slice (some ⟨Y.bb,0,none⟩) mf.b.length Y.cb):=At.cb dz.out
         have jd:wr.cell? ⟨g,50,none⟩=some (.int .i64 (m.C.most:Int)):=fm▸dz.out.st.st.cell (Mk.get_most _ _)
         have gA:=yH ((Path.of_below (g:=g) (p:=p) aL.out).below aw.out)
         have cC:(Tryz.prog.info? 37).map (·.size)=some (idE K).toArray.size:=by kernel_rfl
         clear gr u3 u5 u7 fm
         have ge:=yH (show listL aG=L from dK.out)
         obtain⟨fX,dS⟩: ∃y,mf.b.length=y:=⟨_,rfl⟩
         have fM:=yH dS
         rw[dS]at d5 iF
         clear dS
         try clear cB
         try clear eI
         try clear bY
         try clear fB
         try clear cp
         try clear cF
         try clear dI
         try clear bX
         try clear ar
         try clear cs
         try clear ea
         try clear aV
         try clear cT
         try clear ew
         try clear eK
         try clear eW
         try clear HNd
         try clear a1
         try clear bL
         try clear cQ
         try clear ay
         try clear e6
         try clear am
         try clear b7
         try clear bZ
         try clear a6
         try clear gH
         try clear fN
         try clear fo
         try clear cL
         try clear cA
         try clear fd
         try clear gf
         try clear cR
         try clear dW
         try clear dP
         try clear eZ
         try clear aZ
         try clear cK
         try clear HA5
         try clear eV
         try clear gV
         try clear de
         try clear dO
         try clear cJ
         try clear ir
         try clear ex
         try clear iO
         try clear ih
         try clear cw
         try clear ah
         try clear gs
         try clear dh
         try clear gp
         try clear ff
         try clear b6
         try clear gt
         try clear gc
         try clear eA
         try clear gU
         try clear cx
         try clear bj
         try clear gn
         try clear gz
         try clear ey
         try clear ez
         try clear fb
         try clear gb
         try clear cq
         try clear cc
         try clear cJ
         try clear ie
         try clear J
         try clear hM
         try clear bf
         try clear hG
         try clear HHeld
         try clear hHeld
         try clear cE
         try clear iq
         try clear hw
         try clear f7
         try clear en
         try clear fc
         try clear dH
         try clear a5
         try clear HI
         by_cases du:m.C.most<fX
         ·have d1:decide ((m.C.most:Int)<(fX:Int))=true:=by simp;omega
          have eX:=yH (show Mk.acode m aG real mono K=15 from by
           unfold Mk.acode
           rw[bR.out,if_neg (by simp),aE.out,if_neg HT.out,ge.out,gD.out,fM.out,if_pos du])
          have fg:=yH (At.drew (At.offB cM.out ac.out.kept (fun k' hk'=>by have:=bq k' hk';have:=aL.out.size;omega)))
          have ib:(Mk.cells m {po.S with b:= .slice (some ⟨po.bb,0,none⟩) m.b.length po.cb}).toArray.all (·.oneCell')=true:=by
           obtain⟨Ao,no,co,jx,_,_⟩:=cM.out.ma
           exact aN9 _ _ rfl rfl rfl (by show po.M.oneCell'=true;rw[jx];rfl)
          have iY:=yH (show wr.drew.heap[g]? =some (.cells _ 157 (0,0))from(At.drew dz.out).st.st)
          have jB:(Mk.cells mf {Y.S with b:= .slice (some ⟨Y.bb,0,none⟩) mf.b.length Y.cb}).toArray.size=(Mk.cells m {po.S with b:= .slice (some ⟨po.bb,0,none⟩) m.b.length po.cb}).toArray.size:=by simp[Mk.len]
          go_upto_region 41 with fail
          go_region
          go_upto_region 43 with(first
           |((with_reducible apply aAb 288);refine wpList_load_row rfl 157 (.tmp 287) rfl w1.heap.size rfl 157 (Mk.cells m {po.S with b:= .slice (some ⟨po.bb,0,none⟩) m.b.length po.cb}).toArray (0,0) _ fg.out.st.st Tryz.underlying157 rfl (aBE _ _) ?_)
           |((with_reducible apply aAa (.tmp 289) (.tmp 288));refine wpList_store_row rfl 157 (.tmp 289) (.tmp 288) rfl g (Mk.cells m {po.S with b:= .slice (some ⟨po.bb,0,none⟩) m.b.length po.cb}).toArray rfl rfl 157 _ iY.out (aBE _ _) jB ib ?_)
           |fail)
          have iZ:=yH (At.restore fg.out _ iY.out dz.out.gB (by have A:=bq g (.inl rfl);have Z:=aL.out.size;omega))
          have i7:=yH (show Path g p w po _ from⟨fun k' hk'=>by
           rcases hk' with A|A
           ·exact .inl (.inl A)
           ·right
            have Z:=(At.lt cM.out k' (.inr A)).1
            have h3:=aL.out.size
            omega,((gA.out.trans ac.out).kept.drew).trans (aDq wr.drew g (Mk.cells m {po.S with b:= .slice (some ⟨po.bb,0,none⟩) m.b.length po.cb}).toArray) (fun k' _ A=> .inl A)⟩)
          clear d1 d5 jd
          go_wp2
          go_ret2
          exact aCj eX.out (by decide) ⟨po,iZ.out,i7.out⟩
         ·have d1:decide ((m.C.most:Int)<(fX:Int))=false:=by simp;omega
          have eX:=yH (show Mk.acode m aG real mono K=0 from by
           unfold Mk.acode
           rw[bR.out,if_neg (by simp),aE.out,if_neg HT.out,ge.out,gD.out,fM.out,if_neg du])
          have fv:=yH (show Mk.entered m (listL aG) real mono K=Mk.told mf n8 sq real mono K n.b.length from by
           unfold Mk.entered
           rw[ge.out,gD.out,iI.out,aE.out,ee.out,gq.out])
          go_upto_region 41 with fail
          go_region
          have fa:=yH (At.drew dz.out)
          have hQ:=yH ac.out.drew
          generalize wr.drew=eE at*
          clear d1 d5 jd
          rcases Nat.eq_zero_or_pos n8 with hz|hz
          ·have iN:((n8:Int)==0)=true:=by simp[hz]
           have HZ:=yH hz
           clear hz
           have aR:=At.drew (At.flat fa.out)
           have il:=At.cN aR 10 129 (by decide) rfl
           have i8:=At.fz aR 129
           have ag:=At.drew (At.setNh _ (At.flat fa.out) 10 129 (by decide) rfl sq)
           have iT:=At.cN ag 12 131 (by decide) rfl
           have hc:=At.fz ag 131
           obtain⟨dx,ao⟩: ∃y,y=setN (setN mf.h 10 sq) 12 real:=⟨_,rfl⟩
           have bp:=yH (show At ((eE.setCell ⟨g,129,none⟩ (.int .u64 sq)).setCell ⟨g,131,none⟩ (.int .u64 real)).drew B g Y {mf with h:=dx}from by rw[ao];exact At.drew (At.setNh _ (At.setNh _ (At.flat fa.out) 10 129 (by decide) rfl sq) 12 131 (by decide) rfl real))
           have gI:=yH ao
           have bz:=yH (show dx.N 8=(n8:Int)from by rw[ao];exact dJ.out)
           clear ao
           have eU:=yH (((hQ.out.set 129 (.int .u64 sq)).set 131 (.int .u64 real)).drew)
           clear aR ag
           go_upto_region 45 with fail
           refine wp_region_noPanic ?_
           refine wp_region_held_drew (S:=fun _:World=>True) (by kernel_rfl) trivial (fun hHeld=>?_)
           refine tq 0 292 rfl (fun W hSw=>by go_simp;try (with_reducible rfl)) ?_
           try simp only[Act.put,sA,sZ,sS]
           refine tq 1 293 rfl (fun W hSw=>by go_simp;try (with_reducible rfl)) ?_
           try simp only[Act.put,sA,sZ,sS]
           refine tq 2 294 rfl (fun W hSw=>by go_simp;try (with_reducible rfl)) ?_
           try simp only[Act.put,sA,sZ,sS]
           refine tq 3 295 rfl (fun W hSw=>by go_simp;try (with_reducible rfl)) ?_
           try simp only[Act.put,sA,sZ,sS]
           refine tq 4 296 rfl (fun W hSw=>by go_simp;try (with_reducible rfl)) ?_
           try simp only[Act.put,sA,sZ,sS]
           refine tq 5 297 rfl (fun W hSw=>by go_simp;try (with_reducible rfl)) ?_
           try simp only[Act.put,sA,sZ,sS]
           refine tq 6 298 rfl (fun W hSw=>by go_simp;try (with_reducible rfl)) ?_
           try simp only[Act.put,sA,sZ,sS]
           refine tq 7 299 rfl (fun W hSw=>by go_simp;try (with_reducible rfl)) ?_
           try simp only[Act.put,sA,sZ,sS]
           refine tq 9 300 rfl (fun W hSw=>by go_simp;try (with_reducible rfl)) ?_
           try simp only[Act.put,sA,sZ,sS]
           refine tq 10 301 rfl (fun W hSw=>by go_simp;try (with_reducible rfl)) ?_
           try simp only[Act.put,sA,sZ,sS]
           refine tq 11 302 rfl (fun W hSw=>by go_simp;try (with_reducible rfl)) ?_
           try simp only[Act.put,sA,sZ,sS]
           refine rd 8 rfl (fun K d=>?_)
           go_simp
           skip
           try go_wp2_with fail
           refine d.out _ _ (by trivial) (fun hHeld=>?_)
           clear d K
           try simp only[Act.put,sA,sZ,sS]
           refine tq 12 303 rfl (fun W hSw=>by go_simp;try (with_reducible rfl)) ?_
           try simp only[Act.put,sA,sZ,sS]
           refine rd 13 rfl (fun K d=>?_)
           go_simp
           skip
           try go_wp2_with fail
           refine d.out _ _ (by trivial) (fun hHeld=>?_)
           clear d K
           try simp only[Act.put,sA,sZ,sS]
           refine wpAnyH_done (by kernel_rfl) ?_ _
           refine NoPanic.normal ?_
           try go_wp2_with fail
           generalize ((eE.setCell ⟨g,129,none⟩ (.int .u64 sq)).setCell ⟨g,131,none⟩ (.int .u64 real)).drew=ei at*
           clear il i8 iT hc iN
           have bE:ei.cell? ⟨g,127,none⟩=some (.int .u64 (n8:Int)):=(At.cN bp.out 8 127 (by decide) rfl).trans (congrArg (fun x=>some (Value.int .u64 x)) bz.out)
           have dN:=At.fz bp.out 127
           have gl:IntKind.u64.wrap ((n8:Int)+1)=(n8:Int)+1:=by rw[IntKind.wrap_u64];omega
           go_upto_region 46 with fail
           go_region
           have bh:=yH (At.drew (At.setNh _ bp.out 8 127 (by decide) rfl ((n8:Int)+1)))
           have gK:=yH ((eU.out.set 127 (.int .u64 ((n8:Int)+1))).drew)
           generalize (ei.setCell ⟨g,127,none⟩ (.int .u64 ((n8:Int)+1))).drew=fU at*
           clear bE dN gl
           have aR:=At.drew bh.out
           have ds:=At.cN aR 9 128 (by decide) rfl
           have dq:=At.fz aR 128
           have ag:=At.drew (At.setNh _ bh.out 9 128 (by decide) rfl sq)
           have dL:=At.cN ag 13 132 (by decide) rfl
           have dU:=At.fz ag 132
           have aQ:=At.drew (At.setNh _ (At.setNh _ bh.out 9 128 (by decide) rfl sq) 13 132 (by decide) rfl real)
           have ef:=At.cN aQ 14 133 (by decide) rfl
           have ek:=At.fz aQ 133
           have em:=yH (At.drew (At.setNh _ (At.setNh _ (At.setNh _ bh.out 9 128 (by decide) rfl sq) 13 132 (by decide) rfl real) 14 133 (by decide) rfl mono))
           have dj:=yH ((((gK.out.set 128 (.int .u64 sq)).set 132 (.int .u64 real)).set 133 (.int .u64 mono)).drew)
           clear aR ag aQ
           go_upto_region 47 with fail
           refine wp_region_noPanic ?_
           refine wp_region_held_drew (S:=fun _:World=>True) (by kernel_rfl) trivial (fun hHeld=>?_)
           refine tq 0 315 rfl (fun W hSw=>by go_simp;try (with_reducible rfl)) ?_
           try simp only[Act.put,sA,sZ,sS]
           refine tq 1 316 rfl (fun W hSw=>by go_simp;try (with_reducible rfl)) ?_
           try simp only[Act.put,sA,sZ,sS]
           refine tq 2 317 rfl (fun W hSw=>by go_simp;try (with_reducible rfl)) ?_
           try simp only[Act.put,sA,sZ,sS]
           refine tq 3 318 rfl (fun W hSw=>by go_simp;try (with_reducible rfl)) ?_
           try simp only[Act.put,sA,sZ,sS]
           refine tq 4 319 rfl (fun W hSw=>by go_simp;try (with_reducible rfl)) ?_
           try simp only[Act.put,sA,sZ,sS]
           refine tq 5 320 rfl (fun W hSw=>by go_simp;try (with_reducible rfl)) ?_
           try simp only[Act.put,sA,sZ,sS]
           refine tq 6 321 rfl (fun W hSw=>by go_simp;try (with_reducible rfl)) ?_
           try simp only[Act.put,sA,sZ,sS]
           refine tq 7 322 rfl (fun W hSw=>by go_simp;try (with_reducible rfl)) ?_
           try simp only[Act.put,sA,sZ,sS]
           refine tq 8 323 rfl (fun W hSw=>by go_simp;try (with_reducible rfl)) ?_
           try simp only[Act.put,sA,sZ,sS]
           refine tq 9 324 rfl (fun W hSw=>by go_simp;try (with_reducible rfl)) ?_
           try simp only[Act.put,sA,sZ,sS]
           refine tq 11 325 rfl (fun W hSw=>by go_simp;try (with_reducible rfl)) ?_
           try simp only[Act.put,sA,sZ,sS]
           refine tq 12 326 rfl (fun W hSw=>by go_simp;try (with_reducible rfl)) ?_
           try simp only[Act.put,sA,sZ,sS]
           refine tq 13 327 rfl (fun W hSw=>by go_simp;try (with_reducible rfl)) ?_
           try simp only[Act.put,sA,sZ,sS]
           refine tq 16 329 rfl (fun W hSw=>by go_simp;try (with_reducible rfl)) ?_
           try simp only[Act.put,sA,sZ,sS]
           refine tq 17 330 rfl (fun W hSw=>by go_simp;try (with_reducible rfl)) ?_
           try simp only[Act.put,sA,sZ,sS]
           refine tq 18 331 rfl (fun W hSw=>by go_simp;try (with_reducible rfl)) ?_
           try simp only[Act.put,sA,sZ,sS]
           refine rd 10 rfl (fun K d=>?_)
           go_simp
           skip
           try go_wp2_with fail
           refine d.out _ _ (by trivial) (fun hHeld=>?_)
           clear d K
           try simp only[Act.put,sA,sZ,sS]
           refine tq 14 328 rfl (fun W hSw=>by go_simp;try (with_reducible rfl)) ?_
           try simp only[Act.put,sA,sZ,sS]
           refine rd 15 rfl (fun K d=>?_)
           go_simp
           skip
           try go_wp2_with fail
           refine d.out _ _ (by trivial) (fun hHeld=>?_)
           clear d K
           try simp only[Act.put,sA,sZ,sS]
           refine tq 19 332 rfl (fun W hSw=>by go_simp;try (with_reducible rfl)) ?_
           try simp only[Act.put,sA,sZ,sS]
           refine rd 20 rfl (fun K d=>?_)
           go_simp
           skip
           try go_wp2_with fail
           refine d.out _ _ (by trivial) (fun hHeld=>?_)
           clear d K
           try simp only[Act.put,sA,sZ,sS]
           refine wpAnyH_done (by kernel_rfl) ?_ _
           refine NoPanic.normal ?_
           go_upto_region 48 with fail
           generalize (((fU.setCell ⟨g,128,none⟩ (.int .u64 sq)).setCell ⟨g,132,none⟩ (.int .u64 real)).setCell ⟨g,133,none⟩ (.int .u64 mono)).drew=aS at*
           clear ds dq dL dU ef ek
           have gR:=yH (show Blk aS w.heap.size (idE K) 37 from aDH (dj.out.kept.block _ (yL R1.out.lt aw.out.size) (fun hf=>absurd (bq _ hf) (Nat.lt_irrefl _))) (aDH (aw.out.block _ R1.out.lt) (aKV R1.out)))
           have b8:=yH (show aS.there g 87 (idE K).toArray.size from aIC em.out.st.st 87 16 (by decide))
           obtain⟨wq,a7⟩: ∃x,x=aS.setCells g 87 (idE K).toArray.toList:=⟨_,rfl⟩
           have fY:=yH a7
           have b4:=yH (show At wq B g Y _ from by rw[a7];exact At.setBooth _ em.out K)
           have fO:=yH (show Path g p w2 Y wq from by rw[a7];exact Path.setCells (w1:=aS) (idE K) 87 aS dj.out)
           clear a7
           have jf:=At.cte b4.out
           have i0:=At.fz b4.out 141
           go_upto_region 49 with(first
            |((with_reducible apply aAb 335);refine wpList_load_row rfl 37 (.tmp 9) rfl w.heap.size rfl 37 (idE K).toArray (0,0) _ gR.out Tryz.underlying37 rfl cC ?_)
            |((with_reducible apply aAa (.tmp 339) (.tmp 335));refine aBd rfl 37 (.tmp 339) (.tmp 335) rfl g 87 (idE K).toArray rfl rfl b8.out cC (aKW K) fY.out ?_)
            |fail)
           have gj:=yH (At.setTeh _ b4.out (n.b.length:Int))
           have gY:=yH (fO.out.set 141 (.int .u64 (n.b.length:Int)))
           go_wp2
           go_ret2
           unfold Appended Mk.after
           rw[eX.out,if_pos rfl,if_pos rfl,aE.out,ee.out]
           refine⟨rfl,Y,?_,gA.out.trans gY.out⟩
           rw[fv.out]
           refine At.same gj.out rfl ?_ rfl rfl rfl rfl rfl
           unfold Mk.told
           dsimp only
           rw[if_pos HZ.out,←gI.out,bz.out]
          ·skip
           have iN:((n8:Int)==0)=false:=by simp;omega
           have HZ:=yH (show ¬n8=0 by omega)
           clear hz
           obtain⟨dx,ao⟩: ∃y,y=mf.h:=⟨_,rfl⟩
           have bp:=yH (show At eE B g Y {mf with h:=dx}from by rw[ao];exact fa.out)
           have gI:=yH ao
           have bz:=yH (show dx.N 8=(n8:Int)from by rw[ao];exact dJ.out)
           clear ao
           have eU:=hQ
           obtain⟨ei,fH⟩: ∃y,y=eE:=⟨_,rfl⟩
           rw[←fH]at bp eU⊢
           clear fH
           have bE:ei.cell? ⟨g,127,none⟩=some (.int .u64 (n8:Int)):=(At.cN bp.out 8 127 (by decide) rfl).trans (congrArg (fun x=>some (Value.int .u64 x)) bz.out)
           have dN:=At.fz bp.out 127
           have gl:IntKind.u64.wrap ((n8:Int)+1)=(n8:Int)+1:=by rw[IntKind.wrap_u64];omega
           go_upto_region 46 with fail
           go_region
           have bh:=yH (At.drew (At.setNh _ bp.out 8 127 (by decide) rfl ((n8:Int)+1)))
           have gK:=yH ((eU.out.set 127 (.int .u64 ((n8:Int)+1))).drew)
           generalize (ei.setCell ⟨g,127,none⟩ (.int .u64 ((n8:Int)+1))).drew=fU at*
           clear bE dN gl
           have aR:=At.drew bh.out
           have ds:=At.cN aR 9 128 (by decide) rfl
           have dq:=At.fz aR 128
           have ag:=At.drew (At.setNh _ bh.out 9 128 (by decide) rfl sq)
           have dL:=At.cN ag 13 132 (by decide) rfl
           have dU:=At.fz ag 132
           have aQ:=At.drew (At.setNh _ (At.setNh _ bh.out 9 128 (by decide) rfl sq) 13 132 (by decide) rfl real)
           have ef:=At.cN aQ 14 133 (by decide) rfl
           have ek:=At.fz aQ 133
           have em:=yH (At.drew (At.setNh _ (At.setNh _ (At.setNh _ bh.out 9 128 (by decide) rfl sq) 13 132 (by decide) rfl real) 14 133 (by decide) rfl mono))
           have dj:=yH ((((gK.out.set 128 (.int .u64 sq)).set 132 (.int .u64 real)).set 133 (.int .u64 mono)).drew)
           clear aR ag aQ
           go_upto_region 47 with fail
           refine wp_region_noPanic ?_
           refine wp_region_held_drew (S:=fun _:World=>True) (by kernel_rfl) trivial (fun hHeld=>?_)
           refine tq 0 315 rfl (fun W hSw=>by go_simp;try (with_reducible rfl)) ?_
           try simp only[Act.put,sA,sZ,sS]
           refine tq 1 316 rfl (fun W hSw=>by go_simp;try (with_reducible rfl)) ?_
           try simp only[Act.put,sA,sZ,sS]
           refine tq 2 317 rfl (fun W hSw=>by go_simp;try (with_reducible rfl)) ?_
           try simp only[Act.put,sA,sZ,sS]
           refine tq 3 318 rfl (fun W hSw=>by go_simp;try (with_reducible rfl)) ?_
           try simp only[Act.put,sA,sZ,sS]
           refine tq 4 319 rfl (fun W hSw=>by go_simp;try (with_reducible rfl)) ?_
           try simp only[Act.put,sA,sZ,sS]
           refine tq 5 320 rfl (fun W hSw=>by go_simp;try (with_reducible rfl)) ?_
           try simp only[Act.put,sA,sZ,sS]
           refine tq 6 321 rfl (fun W hSw=>by go_simp;try (with_reducible rfl)) ?_
           try simp only[Act.put,sA,sZ,sS]
           refine tq 7 322 rfl (fun W hSw=>by go_simp;try (with_reducible rfl)) ?_
           try simp only[Act.put,sA,sZ,sS]
           refine tq 8 323 rfl (fun W hSw=>by go_simp;try (with_reducible rfl)) ?_
           try simp only[Act.put,sA,sZ,sS]
           refine tq 9 324 rfl (fun W hSw=>by go_simp;try (with_reducible rfl)) ?_
           try simp only[Act.put,sA,sZ,sS]
           refine tq 11 325 rfl (fun W hSw=>by go_simp;try (with_reducible rfl)) ?_
           try simp only[Act.put,sA,sZ,sS]
           refine tq 12 326 rfl (fun W hSw=>by go_simp;try (with_reducible rfl)) ?_
           try simp only[Act.put,sA,sZ,sS]
           refine tq 13 327 rfl (fun W hSw=>by go_simp;try (with_reducible rfl)) ?_
           try simp only[Act.put,sA,sZ,sS]
           refine tq 16 329 rfl (fun W hSw=>by go_simp;try (with_reducible rfl)) ?_
           try simp only[Act.put,sA,sZ,sS]
           refine tq 17 330 rfl (fun W hSw=>by go_simp;try (with_reducible rfl)) ?_
           try simp only[Act.put,sA,sZ,sS]
           refine tq 18 331 rfl (fun W hSw=>by go_simp;try (with_reducible rfl)) ?_
           try simp only[Act.put,sA,sZ,sS]
           refine rd 10 rfl (fun K d=>?_)
           go_simp
           skip
           try go_wp2_with fail
           refine d.out _ _ (by trivial) (fun hHeld=>?_)
           clear d K
           try simp only[Act.put,sA,sZ,sS]
           refine tq 14 328 rfl (fun W hSw=>by go_simp;try (with_reducible rfl)) ?_
           try simp only[Act.put,sA,sZ,sS]
           refine rd 15 rfl (fun K d=>?_)
           go_simp
           skip
           try go_wp2_with fail
           refine d.out _ _ (by trivial) (fun hHeld=>?_)
           clear d K
           try simp only[Act.put,sA,sZ,sS]
           refine tq 19 332 rfl (fun W hSw=>by go_simp;try (with_reducible rfl)) ?_
           try simp only[Act.put,sA,sZ,sS]
           refine rd 20 rfl (fun K d=>?_)
           go_simp
           skip
           try go_wp2_with fail
           refine d.out _ _ (by trivial) (fun hHeld=>?_)
           clear d K
           try simp only[Act.put,sA,sZ,sS]
           refine wpAnyH_done (by kernel_rfl) ?_ _
           refine NoPanic.normal ?_
           go_upto_region 48 with fail
           generalize (((fU.setCell ⟨g,128,none⟩ (.int .u64 sq)).setCell ⟨g,132,none⟩ (.int .u64 real)).setCell ⟨g,133,none⟩ (.int .u64 mono)).drew=aS at*
           clear ds dq dL dU ef ek
           have gR:=yH (show Blk aS w.heap.size (idE K) 37 from aDH (dj.out.kept.block _ (yL R1.out.lt aw.out.size) (fun hf=>absurd (bq _ hf) (Nat.lt_irrefl _))) (aDH (aw.out.block _ R1.out.lt) (aKV R1.out)))
           have b8:=yH (show aS.there g 87 (idE K).toArray.size from aIC em.out.st.st 87 16 (by decide))
           obtain⟨wq,a7⟩: ∃x,x=aS.setCells g 87 (idE K).toArray.toList:=⟨_,rfl⟩
           have fY:=yH a7
           have b4:=yH (show At wq B g Y _ from by rw[a7];exact At.setBooth _ em.out K)
           have fO:=yH (show Path g p w2 Y wq from by rw[a7];exact Path.setCells (w1:=aS) (idE K) 87 aS dj.out)
           clear a7
           have jf:=At.cte b4.out
           have i0:=At.fz b4.out 141
           go_upto_region 49 with(first
            |((with_reducible apply aAb 335);refine wpList_load_row rfl 37 (.tmp 9) rfl w.heap.size rfl 37 (idE K).toArray (0,0) _ gR.out Tryz.underlying37 rfl cC ?_)
            |((with_reducible apply aAa (.tmp 339) (.tmp 335));refine aBd rfl 37 (.tmp 339) (.tmp 335) rfl g 87 (idE K).toArray rfl rfl b8.out cC (aKW K) fY.out ?_)
            |fail)
           have gj:=yH (At.setTeh _ b4.out (n.b.length:Int))
           have gY:=yH (fO.out.set 141 (.int .u64 (n.b.length:Int)))
           go_wp2
           go_ret2
           unfold Appended Mk.after
           rw[eX.out,if_pos rfl,if_pos rfl,aE.out,ee.out]
           refine⟨rfl,Y,?_,gA.out.trans gY.out⟩
           rw[fv.out]
           refine At.same gj.out rfl ?_ rfl rfl rfl rfl rfl
           unfold Mk.told
           dsimp only
           rw[if_neg HZ.out,←gI.out,bz.out]
 ·have kc:(lx !=0)=true:=by simpa using cV
  have jZ:(lx==0)=false:=by simpa using cV
  have HE:=yH (show Mk.acode m aG real mono K=lx by unfold Mk.acode;rw[if_pos (by rw[bR.out];exact cV),bR.out])
  have jn:=yH cV
  clear cV
  go_wp2
  go_ret2
  exact aCj HE.out jn.out ⟨p,a5.out,Path.of_below aL.out⟩
end Ni
end Go.Proofs.YtlelnfokffflnaaGreat
