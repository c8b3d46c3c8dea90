/-
  Texts beneath the proof.
-/
import Derived.Test.YtlelnfokffflnaaGreatQl22
set_option linter.unusedVariables false
set_option linter.unusedSimpArgs false
set_option maxRecDepth 100000
set_option maxHeartbeats 40000000
open Go.ChangeShapes Go.WideShapes Go.ChangeAt Go.RowKit
namespace Go.Proofs.YtlelnfokffflnaaGreat
namespace Ni
open Bytes8 Blk8 Own8 OwnM OwnA OwnE Rows2 Ob Od Ga Ma Kf Mb Mc Md Mf Mg Mh Fa Fb Fc Sg Dc Yc Yd Yk Gb Na Nb Nc Nd Nee Nf Ng Nh Nk Nl Nm No Ya Pr8 Ps8 Pl8 Pr2
theorem aGt: ∀(l:List PR),codeL l=0→ ∀q∈l,flawI q.1 q.2=0
 | [],_,q,hq=>by cases hq
 |p::r,h,q,hq=>by
  unfold codeL at h
  split at h
  ·next h0=>
   rcases List.mem_cons.1 hq with rfl|hq
   ·exact h0
   ·exact aGt r h q hq
  ·next h0=>exact absurd h h0
theorem aFA {a:List PR}(h:listE a=0):(listL a).length≤16∧ ∀q∈listL a,q∈a∧flawI q.1 q.2=0:=by
 have c:listL a=sortP (ded a):=if_pos h
 unfold listE at h
 split at h
 ·cases h
 ·split at h
  ·next hc=>
   split at h
   ·next h16=>
    rw[c,aBw]
    refine⟨h16,fun q hq=>?_⟩
    have b:=(aC0 a q).1 ((aBb _ _).1 hq)
    exact⟨b,aGt _ hc q b⟩
   ·cases h
  ·next hc=>exact absurd h hc
theorem aGu {w:World}{b:Array Oper}{rest:List Oper}{o:Oper}{a:Act}{Q:Exit→Act→World→Prop}(f:o.guard=none)(x:Operand)(e:o.op= .convert 9 24 x)(l:List Int)(t:AllB l)(n:Nat)(r:l.length=n)(g:Nat)(p:w.heap.size=g)(q:a.eval x= .string (T l))
 (h: ∀c w',Bytes w' (some ⟨g,0,none⟩) l→Grew w w'→g<w'.heap.size→wpList Tryz.prog b Q rest (a.put o.dst (.slice (some ⟨g,0,none⟩) n c)) w'):wpList Tryz.prog b Q (o::rest) a w:=
 wpList_plain f fun K hK=>by
  subst r
  subst p
  have d:=run_bytes_of_string w 9 24 5 (T l) Tryz.underlying9 Tryz.underlying24 Tryz.underlying5
  obtain⟨cf,s,i⟩:=aBL l t
  obtain⟨k,m,u⟩:=i w
  have j:w.heap.size<(s w).heap.size:=by
   rw[k]at d
   injection d with _ d
   rw[d]
   simp
  unfold Oper.wp execOp
  simp only[e,resolve,Sem.run_bind,Sem.run_pure,Result.andThen_ok,q,k]
  exact hK _ _ (h _ _ (m _ rfl) u j)
abbrev idE (K:Nat→Int):List Value:=[.int .u8 (K 0),.int .u8 (K 1),.int .u8 (K 2),.int .u8 (K 3),.int .u8 (K 4),.int .u8 (K 5),.int .u8 (K 6),.int .u8 (K 7),.int .u8 (K 8),.int .u8 (K 9),.int .u8 (K 10),.int .u8 (K 11),.int .u8 (K 12),.int .u8 (K 13),.int .u8 (K 14),.int .u8 (K 15)]
theorem aGv {w:World}{g:Nat}{T:TypeId}{K:Nat→Int}(h:Blk w g (idE K) T):w.rangeAt g 0 (idE K):=fun j v hj=>by rw[Nat.zero_add];exact h.cell hj
theorem aGw {w:World}{B n c d:Nat}{l:List (Kn×Value)}(h:OwnK w B (some ⟨d,0,none⟩) n c l)(x:Nat)(s:x<n):w.there d (x*5) 5:=fun j hj=>by
 have f:=h.len
 obtain⟨b,e,_,_,o⟩:=OwnE.cell h (i:=x*5+j) (by rw[f];omega)
 injection e with e
 injection e with e
 subst e
 refine⟨?_,?_⟩
 ·rw[o,List.getElem?_eq_getElem (by rw[f];omega)]
  rfl
 ·rcases h.2.2 with⟨a,g⟩|⟨k,m,p,a,g,q,r⟩
  ·cases a
  ·injection a with e1 e2 e3
   injection e1 with e1
   injection e1 with e1
   subst e1
   simp[World.frozen?,q]
theorem aDH {w w':World}{g:Nat}{l:List Value}{T:TypeId}(e:w'.heap[g]? =w.heap[g]?)(h:Blk w g l T):Blk w' g l T:=e.trans h
theorem aKV {w:World}{g:Nat}{K:Nat→Int}{T:TypeId}(h:Blk w g ((idL K).map (Value.int .u8)) T):Blk w g (idE K) T:=h
theorem aIC {w:World}{g:Nat}{T:TypeId}{m:Mk}{S:Sl}(h:Blk w g (Mk.cells m S) T)(o n:Nat)(a:o+n≤147):w.there g o n:=fun j hj=>⟨by rw[h.cell (Mk.get _ _ (o+j) (by omega))];rfl,h.frozen _⟩
theorem aBd {w w2:World}{c:Array Oper}{rest:List Oper}{d:Oper}{a:Act}{Q:Exit→Act→World→Prop}(f:d.guard=none)(g:TypeId)(x y:Operand)(i:d.op= .store g x y)
 (b o:Nat)(cells:Array Value)(j:a.eval x= .pointer (some ⟨b,o,none⟩))(l:a.eval y= .agg cells)(k:w.there b o cells.size)(m:(Tryz.prog.info? g).map (·.size)=some cells.size)(n:cells.all (·.oneCell')=true)
 (e:w2=w.setCells b o cells.toList)(h:wpList Tryz.prog c Q rest (a.put d.dst undef) w2):wpList Tryz.prog c Q (d::rest) a w:=by
 subst e
 exact wpList_store_mid f g x y i b o cells j l k m n h
theorem aKW (K:Nat→Int):(idE K).toArray.all (·.oneCell')=true:=by simp[Value.oneCell']
theorem knI:(Tryz.prog.info? 173).map (·.size)=some 5:=by kernel_rfl
theorem aB9 {w:World}{c:Array Oper}{o:Oper}{a:Act}{K:Act→World→Prop}{Q:Exit→Act→World→Prop}{F:Prop}(d:o.guard=none)(e:TypeId)(x y:Operand)(f:o.op= .store e x y)
 (b of:Nat)(cells:Array Value)(g:a.eval x= .pointer (some ⟨b,of,none⟩))(j:a.eval y= .agg cells)
 (i:w.there b of cells.size)(k:(Tryz.prog.info? e).map (·.size)=some cells.size)(m:cells.all (·.oneCell')=true)
 (h:K (a.put o.dst undef) (w.setCells b of cells.toList)):if Region.wanted o (yielded c a.tmps)=true then Oper.wp Tryz.prog o a w K Q else F:=by
 have l:Region.wanted o (yielded c a.tmps)=true:=by simp[Region.wanted,d]
 rw[if_pos l]
 exact wp_store_mid e x y f b of cells g j i k m h
theorem kn_at {l:List (Kn×Value)}{m:Mk}(e:l.map Prod.fst=m.datas)(i:Nat)(a:i<l.length):l[i].1=Mk.kn m i:=by
 unfold Mk.kn
 rw[←e,List.getD_eq_getElem?_getD,List.getElem?_map,List.getElem?_eq_getElem a]
 rfl
theorem dataOf_text (m:Mk)(a s:List Int)(h:Inv m)(g:AllB a)(c:a.length≤64)(hs:AllB s)(b:s.length≤400):(Mk.kn (Mk.dataOf m a s).2 (Mk.dataOf m a s).1).text=s:=by
 unfold Mk.dataOf
 cases e:idxK m.datas s with
 |some i=>
  dsimp only
  unfold idxK at e
  obtain⟨d,j,_⟩:=List.findIdx?_eq_some_iff_getElem.1 e
  unfold Mk.kn
  rw[List.getD_eq_getElem?_getD,List.getElem?_eq_getElem d]
  simpa using j
 |none=>
  dsimp only
  obtain⟨_,_,_,f,_⟩:=aCb h a s g c hs b
  unfold Mk.kn
  rw[f,List.getD_eq_getElem?_getD,List.getElem?_append_right (yR _),Nat.sub_self]
  rfl
structure L1 (B g b2:Nat)(p:Pl)(m:Mk)(L:List PR)(k:Nat)(w2 wr:World)(q:Pl)(A2:Option Addr)(c2:Nat)(A3:Option Addr)(c3:Nat)(xs:List Value):Prop where
 at_:At wr B g q (Mk.dataAll m (L.take k)).1
 low:Low wr b2 q (Mk.dataAll m (L.take k)).1
 path:Path g p w2 q wr
 who:Side 3 1 wr g q b2 A2 k c2 (iv (Mk.dataAll m (L.take k)).2)
 pay_:Side 24 1 wr g q b2 A3 k c3 xs
 pays:Pays wr g q A3 xs ((L.take k).map fun q=>pay q.1 q.2)
 apart: ∀j,ownB A2=some j→ownB A3≠some j
attribute [local irreducible] Mk.cells wpList Code.wp
variable {B g : Nat} {p : Pl} {m : Mk}
def Appended (B g:Nat)(p:Pl)(m:Mk)(raw:List PR)(real mono:Int)(K:Nat→Int)(w:World)(e:Ending)(w':World):Prop:=
 e= .returned (.tuple #[.int .u64 (if Mk.acode m raw real mono K=0 then m.h.N 9+1 else 0),.int .i64 (Mk.acode m raw real mono K)])∧Stp B g p (Mk.after m raw real mono K) w w'
theorem aCj {a:List PR}{real mono x:Int}{K:Nat→Int}{w w':World}(c:Mk.acode m a real mono K=x)(b:x≠0)(h:Stp B g p m w w'):Appended B g p m a real mono K w (.returned (.tuple #[.int .u64 0,.int .i64 x])) w':=by
 unfold Appended Mk.after
 rw[c,if_neg b,if_neg b]
 exact⟨rfl,h⟩
theorem aEW (Ar:Option Addr)(aE:List PR)(nr cr:Nat)(real mono:Int)(K:Nat→Int)(w:World)(h:At w B g p m)(I:Inv m)(hP:Prs w Ar aE)(hL:aE.length=nr)(hn:nr≤100000)(hb:m.b.length≤32768)(jA:m.C.most≤1000000)(d:IdOk K)(hr:0≤real∧real≤18446744073709551615)(hm:0≤mono∧mono≤18446744073709551615)(h9:0≤m.h.N 9∧m.h.N 9≤18446744073709551615):
 Calls Tryz.prog 33 #[.pointer (some ⟨g,0,none⟩),.slice Ar nr cr,.int .u64 real,.int .u64 mono,idV K] w (Appended B g p m aE real mono K w):=by
 have HA:=yH h
 have HI:=yH I
 have HK:=yH d
 have b0:=yH ((Below.refl w.heap.size w).alloc (yR _) (idC 37 K))
 have R0:=yH (show Blk (w.alloc (idC 37 K)) w.heap.size ((idL K).map (Value.int .u8)) 37 from Blk.new w _ _)
 have eO:=yH (hP.below b0.out)
 have cw:=yH hP.1
 clear h I hP
 go_enter Tryz.func33,Tryz.ntmps33
 go_upto_region 1 with fail
 generalize w.alloc (idC 37 K)=w0 at*
 have em:=yH (aGk Ar aE nr cr w0 eO.out hL hn)
 unfold ListedN at em
 obtain⟨n1,fU⟩: ∃x,(listL aE).length=x:=⟨_,rfl⟩
 have cY:=yH fU
 obtain⟨lx,gx⟩: ∃x,listE aE=x:=⟨_,rfl⟩
 have br:=yH gx
 rw[fU,gx]at em
 clear fU gx
 go_upto_region 2 with(first|(go_at_call 75;(refine em.out.mono ?_);rintro e w1 ⟨A1,c1,rfl,hw,gu,hT⟩;have ei:=yH hw;have e6:=yH hT;have aT:=yH (b0.out.trans (gu.mono b0.out.size));have bg:=yH (At.below HA.out aT.out);have R1:=yH (R0.out.below gu R0.out.lt);clear hw gu hT)|fail)
 by_cases cT:lx=0
 ·subst cT
  obtain⟨fi,gb⟩:=aFA br.out
  rw[cY.out]at fi
  by_cases ht:m.h.N 9=18446744073709551615
  ·have cJ:=yH (aDE B g p.bb p.cb p.S m w1 bg.out.st)
   rw[ht]at cJ
   go_wp2_with(first|(go_at_call 66;(refine cJ.out.mono ?_);rintro e w2 ⟨rfl,rfl⟩)|fail)
   go_ret2
   exact aCj (by unfold Mk.acode;rw[br.out,if_neg (by simp),if_pos ht]) (by decide) ⟨p,bg.out,Path.of_below aT.out⟩
  ·have cJ:=yH (aDE B g p.bb p.cb p.S m w1 bg.out.st)
   have d9:(m.h.N 9==18446744073709551615)=false:=by simpa using ht
   have gq:=yH (aMV w1 bg.out HI.out (by omega))
   unfold Copied at gq
   obtain⟨s9,eZ⟩: ∃x,m.h.N 9=x:=⟨_,rfl⟩
   rw[eZ]at cJ d9 ht h9
   have aG:=yH eZ
   clear eZ
   have HT:=yH ht
   clear ht
   go_upto_region 10 with(first
    |(go_at_call 66;(refine cJ.out.mono ?_);rintro e w2 ⟨rfl,rfl⟩)
    |(go_at_call 76;(refine gq.out.mono ?_);rintro e w2 ⟨po,rfl,iM,iI⟩;have cH:=yH iM;have ar:=yH iI;clear iM iI)
    |fail)
   have fP:=aT.out.size
   have bM: ∀k,p.foot g k→k<w.heap.size:=fun k hk=>(At.lt HA.out k hk).2
   obtain⟨L,e7⟩: ∃x,x=listL aE:=⟨_,rfl⟩
   rw[←e7]at cY gb ei
   have cI:=yH e7
   have dC:=yH e7.symm
   clear e7 gq cJ em
   have ce:=yH fun(q:PR) (hq:q∈L)=>show AllB q.1∧AllB q.2∧q.1.length≤64∧q.2.length≤256 from by
    obtain⟨A,Z⟩:=gb q hq
    have h3:=cw.out q A
    have h4:=aBi Z
    exact⟨h3.1,h3.2.1,h4.1,h4.2⟩
   clear gb
   have gD:=yH fun(wr:World) (q:Pl) (hq:Path g p w2 q wr)=>show Prs wr A1 L from by
    by_cases h0:0<n1
    ·exact ei.out.keptB (Nat.le_trans ar.out.size hq.kept.size) fun b im e hb=>(hq.kept.block b (yL hb ar.out.size) (fun hf=>by have:=bM b hf;have:=e6.out b im e h0;have:=b0.out.size;omega)).trans (ar.out.block b hb)
    ·rw[List.eq_nil_of_length_eq_zero (show L.length=0 by rw[cY.out];omega)]
     exact Prs.nil _ _
   have d7:=yH (At.below bg.out ar.out)
   go_wp2
   go_loopw [16,17,18] (fun a16 a17 a18 wr=> ∃(k:Nat) (q:Pl) (A2:Option Addr) (c2:Nat) (A3:Option Addr) (c3:Nat) (xs:List Value),k≤n1∧a18= .int .i64 (k:Int)∧a16= .slice A2 k c2∧a17= .slice A3 k c3∧Hid (L1 B g w2.heap.size p m L k w2 wr q A2 c2 A3 c3 xs)) (fun _ _ i _=>n1-(intOf i).toNat)
   case atStart=>exact⟨0,p,none,0,none,0,[],Nat.zero_le _,rfl,rfl,rfl,yH ⟨d7.out,At.low d7.out (yR _),Path.refl _ _ _,⟨OwnE.nil _ _ (yR _),fun _ h=>by cases h⟩,⟨OwnE.nil _ _ (yR _),fun _ h=>by cases h⟩,⟨rfl,fun r hr=>absurd hr (by simp)⟩,fun _ h=>by cases h⟩⟩
   case round=>
    obtain⟨k,q,A2,c2,A3,c3,xs,hk,rfl,rfl,rfl,eG⟩:=hrel
    by_cases bG:k<n1
    ·have cV:k<L.length:=by rw[cY.out];exact bG
     have fw:k<16:=by omega
     have hD:=aA0 m L k cV
     obtain⟨i1,i2,i3,i4,i5⟩:=aAs HI.out L ce.out k (Nat.le_of_lt cV)
     obtain⟨q1,q2,q3,Y⟩:=ce.out L[k] (List.getElem_mem cV)
     obtain⟨b,im,jG,cR,p0,p1⟩:=(gD.out wr q eG.out.path).2 k cV
     have gv:(L.take (k+1)).map (fun q=>pay q.1 q.2)=(L.take k).map (fun q=>pay q.1 q.2)++ [pay L[k].1 L[k].2]:=by rw[List.take_succ_eq_append_getElem cV,List.map_append];rfl
     obtain⟨aI,ai,aH,aj,bt,ay,ff⟩:=eG.out
     rw[show L.getD k nil2=L[k]by rw[List.getD_eq_getElem?_getD,List.getElem?_eq_getElem cV];rfl]at p0 p1
     subst jG
     generalize L[k]=pq at*
     obtain⟨nm,v⟩:=pq
     dsimp only at q1 q2 q3 Y p0 p1 gv
     rcases hdk:Mk.dataAll m (L.take k)with⟨dk,who⟩
     rw[hdk]at hD i1 i2 i3 i4 i5 aI ai aj
     dsimp only at i1 i2 i3 i4 i5 aI ai aj
     have e8:=yH (aMP nm v wr aI i1 q1 q2 ⟨q3,Y⟩ (by omega))
     have iS:(pay nm v).length≤400:=by rw[Fa.pay_len];omega
     have gE:=aBr q1 q2
     obtain⟨j1,j2,j3,j4⟩:=aC1 i1 nm (pay nm v) q1 q3 gE iS
     have fc:=dataOf_text dk nm (pay nm v) i1 q1 q3 gE iS
     unfold dataStep at hD
     dsimp only at hD
     generalize pay nm v=s at*
     rcases hdo:Mk.dataOf dk nm s with⟨j,m3⟩
     rw[hdo]at hD j1 j2 j3 j4 fc e8
     dsimp only at hD j1 j2 j3 j4 fc e8
     have HD:=yH hD
     have iC:=yH gv
     have fu:=yH aI
     have dG:=yH ai
     have cF:=yH aH
     have ep:=yH aj
     have dI:=yH bt
     have cB:=yH ay
     have db:=yH ff
     have ib:=yH fc
     have ds:=yH i5
     have gm:=yH j4
     have bX:=yH i3
     clear hD gv aI ai aH aj bt ay ff hdo hdk fc i5 j4 i3
     go_upto_region 14 with(first
      |(go_at_call 77;(refine e8.out.mono ?_);rintro e w3 ⟨rfl,q3,iH,iy,je,iq⟩;have aZ:=yH iH;have di:=yH iy;have jx:=yH je;have jD:=yH iq;clear iH iy je iq)
      |fail)
     have gP:=yH (ep.out.path di.out)
     have b7:=yH (dI.out.path di.out)
     have eN:=yH (cB.out.path di.out)
     have gF:=yH (Low.path dG.out fu.out di.out jx.out jD.out gm.out.main)
     have cC:=yH (cF.out.trans di.out)
     have gR:j<q3.dl.length:=by have e:=congrArg List.length aZ.out.dm;rw[List.length_map]at e;omega
     obtain⟨H,aa,jL,d0,_,_,_,_⟩:=aBp aZ.out.dr j gR
     have fh:=At.cd aZ.out
     obtain⟨aM,cp⟩: ∃x,q3.nd=x:=⟨_,rfl⟩
     have HNd:=yH cp
     rw[aa,cp]at fh
     clear cp
     rw[kn_at aZ.out.dm j gR,ib.out]at d0
     have bQ:j<aM:=by rw[←HNd.out,←aAy aZ.out.dr];exact gR
     have aD:aM≤100000:=by
      have e:=congrArg List.length aZ.out.dm
      rw[List.length_map,aAy aZ.out.dr,HNd.out]at e
      have:=j1.dn
      omega
     obtain⟨ns,ef⟩: ∃x,s.length=x:=⟨_,rfl⟩
     have iZ:=yH ef
     have jT:=cC.out.kept.size
     clear ef
     go_upto_region 15 with(first
      |(refine aGu rfl (.tmp 62) rfl s gE ns iZ.out w3.heap.size rfl rfl ?_;intro c4 w4 ft fM fo;have fp:=yH fo;have hE:=yH ft;have aW:=yH fM.below;clear ft fM fo)
      |(at_builtin;(refine aAe rowE rfl (.tmp 54) (.tmp 64) rfl w2.heap.size A3 k c3 xs rfl (OwnE.alloc ((b7.out.below aW.out).own) _) ⟨w4.heap.size,0,none⟩ 1 1 [.slice (some ⟨w3.heap.size,0,none⟩) ns c4] rfl rfl (Blk.news (Blk.new w4 _ _)) (by simp[Value.oneCell']) (by omega) (by omega) (by unfold maxLen;omega) ?_);intro A5 c5 w5 hd fB fE;have iX:=yH hd;have bc:=yH fB;have eT:=yH fE;clear hd fB fE)
      |fail)
     have bo:=(Below.refl w4.heap.size w4).alloc (yR _) (.cells #[.slice (some ⟨w3.heap.size,0,none⟩) ns c4] 24)
     have bW:=aW.out.trans (bo.mono aW.out.size)
     have j5:=bW.size
     have cU:=At.below aZ.out bW
     have dW:=Low.path gF.out aZ.out (Path.of_below bW) (fun x hx=> .inl hx) rfl rfl
     have bm:=gP.out.below bW
     have bf:=b7.out.below bW
     have cu:=eN.out.below bW
     have fF:=At.lt aZ.out
     have gt: ∀k',ownB A3=some k'→w2.heap.size≤k'∧ ¬q3.foot g k':=fun k' A=>⟨(OwnE.ltB bf.own k' A).1,bf.off k' A⟩
     obtain⟨fD,cx⟩:=At.offA cU dW (KeptF.grow _ bc.out) gt
     have HA5:=yH fD
     have HLow5:=yH cx
     have ah:=yH (Path.side (cC.out.below bW) (KeptF.grow _ bc.out) fun k' A=>(gt k' A).1)
     have b9:=yH (show Side 3 1 w5 g q3 w2.heap.size A2 k c2 (iv who)from⟨OwnE.keptG bm.own bc.out (db.out),bm.off⟩)
     have b8:=yH (show Side 24 1 w5 g q3 w2.heap.size A5 (k+1) c5 (xs++ [.slice (some ⟨w3.heap.size,0,none⟩) ns c4])from⟨iX.out,fun k' A Z=>by
      rcases eT.out with h3|h3
      ·exact bf.off k' (h3▸A) Z
      ·rw[h3]at A
       injection A with A
       have:=(fF k' Z).2
       omega⟩)
     have a7:=yH (Pays.push cu bc.out eT.out w3.heap.size c4 s ((aBc hE.out bo.size (bo.block _ fp.out))) (by have:=fp.out;have:=bo.size;omega) (fun Z=>by have:=(fF _ Z).2;omega) (fun Z=>by have:=(OwnE.ltB b7.out.own _ Z).2;omega))
     rw[iZ.out]at a7
     have iu:=yH (show ∀j',ownB A2=some j'→ownB A5≠some j' from fun j' A Z=>by
      rcases eT.out with h3|h3
      ·exact db.out j' A (h3▸Z)
      ·rw[h3]at Z
       injection Z with Z
       have:=(OwnE.ltB bm.own j' A).2
       omega)
     have jV:=bc.out.size
     clear fD cx cU dW bm bf cu iX eT bc gt bo fh d0 aa
     obtain⟨f,hf⟩: ∃f:Nat→Nat,f=fun i=>(Mk.kn m3 i).at_:=⟨_,rfl⟩
     rw[←hf]at HD
     have HF:=yH fun i=>congrFun hf i
     clear hf
     have bP:who.length=k:=i2
     have gO:=yH fun(i:Nat) (hi:i<m3.datas.length)=>show f i≤100000 from by
      rw[HF.out]
      have hk:Mk.kn m3 i=m3.datas[i]:=by unfold Mk.kn;rw[List.getD_eq_getElem?_getD,List.getElem?_eq_getElem hi];rfl
      have:=(j1.dat _ (List.getElem_mem hi)).1
      rw[hk]
      omega
     have eg:=yH fun(wr':World) (hb':Below w5.heap.size w5 wr') (i:Nat) (hi:i<q3.dl.length)=>show ∃b,q3.D=some ⟨b,0,none⟩∧wr'.cell? ⟨b,i*5+1,none⟩=some (.int .u64 (f i:Int))from by
      obtain⟨b',e',_,_,A,_⟩:=aBp (At.below HA5.out hb').dr i hi
      rw[kn_at HA5.out.dm i hi,←HF.out]at A
      exact⟨b',e',A⟩
     have iw:q3.dl.length=m3.datas.length:=by rw[←HA5.out.dm,List.length_map]
     have a2:=yH (show aM=m3.datas.length by rw[←HNd.out,←aAy HA5.out.dr,iw])
     go_wp2
     go_loopw [20] (fun a20 wr'=> ∃a:Nat,a≤k∧a20= .int .i64 (a:Int)∧Hid (posW f (f j) who who.length=posW f (f j) who a)∧Hid (Below w5.heap.size w5 wr')) (fun i _=>(intOf i).toNat)
     case atStart=>exact⟨k,yR _,rfl,yH (by rw[bP]),yH (Below.refl _ _)⟩
     case round=>
      obtain⟨a,gg,rfl,ew,hbw⟩:=hrel
      obtain⟨cK,aB⟩: ∃c:Bool,c=(decide (0<a)&&decide (f j<f (who.getD (a-1) 0))):=⟨_,rfl⟩
      go_upto_region 16 with fail
      go_cut [20,92]from 68 to 92 (fun i z wx=>i= .int .i64 (a:Int)∧z= .bool cK∧Hid (Below w5.heap.size w5 wx))
      case first=>
       rcases Nat.eq_zero_or_pos a with h0|h0
       ·subst h0
        have dS:cK=false:=by rw[aB];simp
        subst dS
        clear aB
        go_region
        go_wp2
        go_meet
        case rel=>exact⟨by go_num,rfl,yH (hbw.out.drew)⟩
       ·obtain⟨a',rfl⟩: ∃a',a=a'+1:=⟨a-1,by omega⟩
        have il:=At.below HA5.out hbw.out
        have it:wr.cell? ⟨g,144,none⟩=some (.slice q3.D aM q3.cd):=HNd.out▸At.cd il
        obtain⟨bw,dX,ke⟩:=aEf (b9.out.below hbw.out).own a' (by omega)
        have aJ:who.getD a' 0<m3.datas.length:=by
         rw[List.getD_eq_getElem?_getD,List.getElem?_eq_getElem (by omega:a'<who.length)]
         exact yL (bX.out _ (List.getElem_mem _)) gm.out.datas
        obtain⟨b1,aa,r1⟩:=eg.out wr hbw.out (who.getD a' 0) (by omega)
        obtain⟨b2,a1,r2⟩:=eg.out wr hbw.out j (by omega)
        rw[aa]at a1 it
        injection a1 with a1
        injection a1 with a1
        subst a1
        have kf:=gO.out _ aJ
        have jW:=gO.out j (by omega)
        have iR:cK=decide ((f j:Int)<(f (who.getD a' 0):Int)):=by rw[aB];simp
        clear aB il
        have j7:who.getD a' 0<aM:=by have:=a2.out;omega
        have HC:=yH iR
        clear iR aa
        subst dX
        generalize who.getD a' 0=x at*
        generalize f x=fx at*
        generalize f j=fj at*
        by_cases fQ:fj<fx
        ·have d1:decide ((fj:Int)<(fx:Int))=true:=by simp;omega
         have dS:cK=true:=by rw[HC.out];exact d1
         subst dS
         go_region
         go_wp2
         go_meet
         case rel=>exact⟨by go_num,rfl,yH (hbw.out.drew)⟩
        ·have d1:decide ((fj:Int)<(fx:Int))=false:=by simp;omega
         have dS:cK=false:=by rw[HC.out];exact d1
         subst dS
         go_region
         go_wp2
         go_meet
         case rel=>exact⟨by go_num,rfl,yH (hbw.out.drew)⟩
      case rest=>
       obtain⟨rfl,rfl,dO⟩:=hcut
       cases cP:cK with
       |true=>
        have hc2:=cP▸aB
        have gA:0<a:=by
         rcases Nat.eq_zero_or_pos a with h|h
         ·rw[h]at hc2;simp at hc2
         ·exact h
        have fQ:f j<f (who.getD (a-1) 0):=by simpa [gA]using hc2.symm
        have dT:posW f (f j) who a=posW f (f j) who (a-1):=by
         obtain⟨a',rfl⟩: ∃a',a=a'+1:=⟨a-1,by omega⟩
         exact if_pos (show f j<f (who.getD a' 0)from fQ)
        have gl:=yH (ew.out.trans dT)
        clear aB cP hc2 fQ dT
        go_wp2
        go_roundw
        case rel=>exact⟨a-1,by omega,by go_num,gl,dO⟩
        case measure=>simp[intOf];omega
       |false=>
        have hc2:=cP▸aB
        have dT:posW f (f j) who a=a:=by
         rcases Nat.eq_zero_or_pos a with h|h
         ·rw[h];rfl
         ·obtain⟨a',rfl⟩: ∃a',a=a'+1:=⟨a-1,by omega⟩
          have Z: ¬f j<f (who.getD a' 0):=by
           intro h3
           have:(decide (0<a'+1)&&decide (f j<f (who.getD (a'+1-1) 0)))=true:=by rw[Nat.add_sub_cancel,decide_eq_true h3];simp
           rw[←hc2]at this
           cases this
          rw[posW,if_neg Z]
        have gl:=yH (show insW f who j=who.take a++j::who.drop a by unfold insW;rw[ew.out,dT])
        clear aB cP hc2 dT ew
        go_upto_region 18 with fail
        rename World=>wd
        have ip:who.length=k:=bP
        have ey:=yH (b9.out.below dO.out).own
        have bH:=yH (show a+1+(k-a)=k+1 by omega)
        have eb:=yH fun(A8:Option Addr) (c8:Nat) (w8:World) (bh:OwnE 3 1 w8 wd.heap.size A8 (k+1) c8 (iv (insW f who j))) (cc:Below wd.heap.size wd w8)=>show L1 B g w2.heap.size p m L (k+1) w2 w8 q3 A8 c8 A5 c5 (xs++ [.slice (some ⟨w3.heap.size,0,none⟩) ns c4])from by
         have bI:=dO.out.trans (cc.mono dO.out.size)
         have jO:=dO.out.size
         exact
          {at_:=by rw[HD.out];exact At.below HA5.out bI
           low:=by rw[HD.out];exact Low.path HLow5.out HA5.out (Path.of_below bI) (fun x hx=> .inl hx) rfl rfl
           path:=ah.out.below bI
           who:=by
            rw[HD.out]
            refine⟨aEe bh (by omega),fun k' A Z=>?_⟩
            have h3:=(OwnE.ltB bh k' A).1
            have h4:=(At.lt HA5.out k' Z).2
            omega
           pay_:=b8.out.below bI
           pays:=by rw[iC.out];exact a7.out.below bI
           apart:=fun j' A Z=>by
            have h3:=(OwnE.ltB bh j' A).1
            have h4:=(OwnE.ltB b8.out.own j' Z).2
            omega}
        have f8:=aIw ey.out
        have kd:=fun W=>aPV A2 k c2 a (by omega) W
        have jP:=fun W=>aPW A2 k c2 a gg W
        have cS:=yH fun(W:World) (hb:Below wd.heap.size wd W)=>aKD (ey.out.kept hb (yR _)) gg
        have a4:=yH fun(W:World) (hb:Below wd.heap.size wd W)=>aKE (ey.out.kept hb (yR _)) gg
        have jh: []++iv (List.take a who)++iv [j]++iv (List.drop a who)=iv (insW f who j):=by rw[gl.out];simp[iv]
        have gr:=yH jh
        try clear jh
        try clear ip
        try clear ey
        try clear f8
        try clear HA5
        try clear HLow5
        try clear ah
        try clear b9
        try clear b8
        try clear a7
        try clear iu
        try clear eg
        try clear gO
        try clear HF
        try clear bX
        try clear gm
        try clear ib
        try clear ds
        try clear HD
        try clear iC
        try clear fu
        try clear dG
        try clear cF
        try clear ep
        try clear dI
        try clear cB
        try clear db
        try clear e8
        try clear gD
        try clear HA
        try clear HI
        try clear HK
        try clear b0
        try clear R0
        try clear eO
        try clear cw
        try clear em
        try clear aT
        try clear bg
        try clear R1
        try clear br
        try clear ce
        try clear cI
        try clear d7
        try clear e6
        try clear ei
        try clear bM
        try clear fP
        try clear cH
        try clear ar
        have B1:=yH (show Below wd.heap.size wd (wd.drew.alloc (.cells #[] 3))from(Below.refl _ _).drew.alloc (yR _) _)
        have B2:=yH (B1.out.alloc B1.out.size (.cells #[.int .i64 (j:Int)] 3))
        have eK:=(show Below wd.heap.size wd (wd.drew.alloc (.cells #[.int .i64 (j:Int)] 3))from(Below.refl _ _).drew.alloc (yR _) _)
        have B3:=yH (eK.alloc eK.size (.cells #[] 3))
        have E1:=yH (aGm wd.drew wd.heap.size (yR _))
        have E2:=yH (OwnE.alloc E1.out (.cells #[.int .i64 (j:Int)] 3))
        have E3:=yH (show OwnE 3 1 ((wd.drew.alloc (.cells #[.int .i64 (j:Int)] 3)).alloc (.cells #[] 3)) wd.heap.size (some ⟨wd.heap.size+1,0,none⟩) 0 0 []from by
         have:=aGm (wd.drew.alloc (.cells #[.int .i64 (j:Int)] 3)) wd.heap.size eK.size
         simpa using this)
        have J2:=yH (show Blk ((wd.drew.alloc (.cells #[] 3)).alloc (.cells #[.int .i64 (j:Int)] 3)) (wd.heap.size+1) (iv [j]) 3 from Blk.new_at _ _ _ _ (by simp))
        have J3:=yH (show Blk ((wd.drew.alloc (.cells #[.int .i64 (j:Int)] 3)).alloc (.cells #[] 3)) wd.heap.size (iv [j]) 3 from(Blk.new wd.drew (iv [j]) _).alloc _)
        clear eK
        refine wp_region_noPanic ?_
        refine wp_region_held_drew (S:=fun _:World=>True) (by kernel_rfl) trivial (fun hHeld=>?_)
        refine tq 1 96 rfl (fun W hSw=>by go_simp;try (with_reducible rfl)) ?_
        try simp only[Act.put,sA,sZ,sS]
        refine tq 2 97 rfl (fun W hSw=>by go_simp;try (with_reducible rfl)) ?_
        try simp only[Act.put,sA,sZ,sS]
        refine tq 3 98 rfl (fun W hSw=>by go_simp;try (with_reducible rfl)) ?_
        try simp only[Act.put,sA,sZ,sS]
        refine tq 5 100 rfl (fun W hSw=>by go_simp;try (with_reducible rfl)) ?_
        try simp only[Act.put,sA,sZ,sS]
        refine tq 8 103 rfl (fun W hSw=>by go_simp;try (with_reducible rfl)) ?_
        try simp only[Act.put,sA,sZ,sS]
        refine tq 9 104 rfl (fun W hSw=>by go_simp;try (with_reducible rfl)) ?_
        try simp only[Act.put,sA,sZ,sS]
        refine tq 10 105 rfl (fun W hSw=>by go_simp;try (with_reducible rfl)) ?_
        try simp only[Act.put,sA,sZ,sS]
        refine wpAnyH_ready (rs:=[0,6]) (by kernel_rfl) (by simp) ?_
        refine AllReadyH.cons (o:=⟨some 95,_,_,_,_,_⟩) rfl (fun K d=>?_) (AllReadyH.cons (o:=⟨some 101,_,_,_,_,_⟩) rfl (fun K d=>?_) AllReadyH.nil)
        ·go_simp
         try go_wp2_with fail
         refine d.out _ _ trivial (fun hHeld=>?_)
         clear d K
         try simp only[Act.put,sA,sZ,sS]
         refine wpAnyH_ready (rs:=[4,6]) (by kernel_rfl) (by simp) ?_
         refine AllReadyH.cons (o:=⟨some 99,_,_,_,_,_⟩) rfl (fun K d=>?_) (AllReadyH.cons (o:=⟨some 101,_,_,_,_,_⟩) rfl (fun K d=>?_) AllReadyH.nil)
         ·refine aAn (o:=⟨some 99,_,_,_,_,_⟩) intE rfl (.tmp 95) (.tmp 98) rfl wd.heap.size (some ⟨wd.heap.size,0,none⟩) 0 0 [] rfl E1.out A2 a c2 (iv (who.take a)) rfl a (Nat.zero_add _) (cS.out _ B1.out).1 (cS.out _ B1.out).2 (aCI _) (by omega) (by omega) (by unfold maxLen;omega) ?_
          intro A6 c6 w6 bL ak bu
          have bR:=yH bL
          have bd:=yH (B1.out.trans (below_grown ak B1.out.size (fun q hq=>(OwnE.ltB E1.out q hq).1)))
          clear bL ak bu
          refine d.out _ _ trivial (fun hHeld=>?_)
          clear d K
          try simp only[Act.put,sA,sZ,sS]
          refine rd 6 rfl (fun K d=>?_)
          go_simp
          try go_wp2_with fail
          refine d.out _ _ trivial (fun hHeld=>?_)
          clear d K
          try simp only[Act.put,sA,sZ,sS]
          refine rd 7 rfl (fun K d=>?_)
          refine aAn (o:=⟨some 102,_,_,_,_,_⟩) intE rfl (.tmp 99) (.tmp 101) rfl wd.heap.size A6 a c6 _ rfl (OwnE.alloc bR.out _) (some ⟨w6.heap.size,0,none⟩) 1 1 (iv [j]) rfl (a+1) rfl rfl (fun q u hq=>⟨_,rfl,Blk.news (Blk.new w6 (iv [j]) _) q u hq⟩) (aCI _) (by omega) (by omega) (by unfold maxLen;omega) ?_
          intro A7 c7 w7 bs az bB
          have bK:=yH bs
          have ao:=yH ((bd.out.alloc bd.out.size _).trans (below_grown az (by have:=bd.out.size;simp;omega) (fun q hq=>(OwnE.ltB bR.out q hq).1)))
          clear bs az bB
          refine d.out _ _ trivial (fun hHeld=>?_)
          clear d K
          try simp only[Act.put,sA,sZ,sS]
          refine rd 11 rfl (fun K d=>?_)
          refine aAn (o:=⟨some 106,_,_,_,_,_⟩) intE rfl (.tmp 102) (.tmp 105) rfl wd.heap.size A7 (a+1) c7 _ rfl bK.out (cutA A2 c2 a) (k-a) (c2-a) (iv (who.drop a)) rfl (k+1) bH.out (a4.out _ ao.out).1 (a4.out _ ao.out).2 (aCI _) (by omega) (by omega) (by unfold maxLen;omega) ?_
          intro A8 c8 w8 bx aC bF
          have bh:=yH (gr.out▸bx)
          have cc:=yH (ao.out.trans (below_grown aC ao.out.size (fun q hq=>(OwnE.ltB bK.out q hq).1)))
          clear bx aC bF
          refine d.out _ _ trivial (fun hHeld=>?_)
          clear d K
          try simp only[Act.put,sA,sZ,sS]
          refine tq 12 16 rfl (fun W hSw=>by go_simp;try (with_reducible rfl)) ?_
          try simp only[Act.put,sA,sZ,sS]
          refine wpAnyH_done (by kernel_rfl) ?_ _
          refine NoPanic.normal ?_
          try go_wp2_with fail
          go_roundw
          case measure=>simp[intOf];omega
          case rel=>exact⟨k+1,q3,A8,c8,A5,c5,_,by omega,by go_num,rfl,rfl,yH (eb.out A8 c8 _ bh.out cc.out)⟩
         ·go_simp
          try go_wp2_with fail
          refine d.out _ _ trivial (fun hHeld=>?_)
          clear d K
          try simp only[Act.put,sA,sZ,sS]
          refine rd 4 rfl (fun K d=>?_)
          refine aAn (o:=⟨some 99,_,_,_,_,_⟩) intE rfl (.tmp 95) (.tmp 98) rfl wd.heap.size (some ⟨wd.heap.size,0,none⟩) 0 0 [] rfl E2.out A2 a c2 (iv (who.take a)) rfl a (Nat.zero_add _) (cS.out _ B2.out).1 (cS.out _ B2.out).2 (aCI _) (by omega) (by omega) (by unfold maxLen;omega) ?_
          intro A6 c6 w6 bL ak bu
          have bR:=yH bL
          have bd:=yH (B2.out.trans (below_grown ak B2.out.size (fun q hq=>(OwnE.ltB E2.out q hq).1)))
          have J6:=yH (aAl (g:=wd.heap.size) J2.out ak (by omega))
          clear bL ak bu
          refine d.out _ _ trivial (fun hHeld=>?_)
          clear d K
          try simp only[Act.put,sA,sZ,sS]
          refine rd 7 rfl (fun K d=>?_)
          refine aAn (o:=⟨some 102,_,_,_,_,_⟩) intE rfl (.tmp 99) (.tmp 101) rfl wd.heap.size A6 a c6 _ rfl bR.out (some ⟨wd.heap.size+1,0,none⟩) 1 1 (iv [j]) rfl (a+1) rfl rfl (fun q u hq=>⟨_,rfl,Blk.news J6.out q u hq⟩) (aCI _) (by omega) (by omega) (by unfold maxLen;omega) ?_
          intro A7 c7 w7 bs az bB
          have bK:=yH bs
          have ao:=yH (bd.out.trans (below_grown az bd.out.size (fun q hq=>(OwnE.ltB bR.out q hq).1)))
          clear bs az bB
          refine d.out _ _ trivial (fun hHeld=>?_)
          clear d K
          try simp only[Act.put,sA,sZ,sS]
          refine rd 11 rfl (fun K d=>?_)
          refine aAn (o:=⟨some 106,_,_,_,_,_⟩) intE rfl (.tmp 102) (.tmp 105) rfl wd.heap.size A7 (a+1) c7 _ rfl bK.out (cutA A2 c2 a) (k-a) (c2-a) (iv (who.drop a)) rfl (k+1) bH.out (a4.out _ ao.out).1 (a4.out _ ao.out).2 (aCI _) (by omega) (by omega) (by unfold maxLen;omega) ?_
          intro A8 c8 w8 bx aC bF
          have bh:=yH (gr.out▸bx)
          have cc:=yH (ao.out.trans (below_grown aC ao.out.size (fun q hq=>(OwnE.ltB bK.out q hq).1)))
          clear bx aC bF
          refine d.out _ _ trivial (fun hHeld=>?_)
          clear d K
          try simp only[Act.put,sA,sZ,sS]
          refine tq 12 16 rfl (fun W hSw=>by go_simp;try (with_reducible rfl)) ?_
          try simp only[Act.put,sA,sZ,sS]
          refine wpAnyH_done (by kernel_rfl) ?_ _
          refine NoPanic.normal ?_
          try go_wp2_with fail
          go_roundw
          case measure=>simp[intOf];omega
          case rel=>exact⟨k+1,q3,A8,c8,A5,c5,_,by omega,by go_num,rfl,rfl,yH (eb.out A8 c8 _ bh.out cc.out)⟩
        ·go_simp
         try go_wp2_with fail
         refine d.out _ _ trivial (fun hHeld=>?_)
         clear d K
         try simp only[Act.put,sA,sZ,sS]
         refine rd 0 rfl (fun K d=>?_)
         go_simp
         try go_wp2_with fail
         refine d.out _ _ trivial (fun hHeld=>?_)
         clear d K
         try simp only[Act.put,sA,sZ,sS]
         refine rd 4 rfl (fun K d=>?_)
         refine aAn (o:=⟨some 99,_,_,_,_,_⟩) intE rfl (.tmp 95) (.tmp 98) rfl wd.heap.size (some ⟨wd.heap.size+1,0,none⟩) 0 0 [] rfl E3.out A2 a c2 (iv (who.take a)) rfl a (Nat.zero_add _) (cS.out _ B3.out).1 (cS.out _ B3.out).2 (aCI _) (by omega) (by omega) (by unfold maxLen;omega) ?_
         intro A6 c6 w6 bL ak bu
         have bR:=yH bL
         have bd:=yH (B3.out.trans (below_grown ak B3.out.size (fun q hq=>(OwnE.ltB E3.out q hq).1)))
         have J6:=yH (aAl (g:=wd.heap.size+1) J3.out ak (by omega))
         clear bL ak bu
         refine d.out _ _ trivial (fun hHeld=>?_)
         clear d K
         try simp only[Act.put,sA,sZ,sS]
         refine rd 7 rfl (fun K d=>?_)
         refine aAn (o:=⟨some 102,_,_,_,_,_⟩) intE rfl (.tmp 99) (.tmp 101) rfl wd.heap.size A6 a c6 _ rfl bR.out (some ⟨wd.heap.size,0,none⟩) 1 1 (iv [j]) rfl (a+1) rfl rfl (fun q u hq=>⟨_,rfl,Blk.news J6.out q u hq⟩) (aCI _) (by omega) (by omega) (by unfold maxLen;omega) ?_
         intro A7 c7 w7 bs az bB
         have bK:=yH bs
         have ao:=yH (bd.out.trans (below_grown az bd.out.size (fun q hq=>(OwnE.ltB bR.out q hq).1)))
         clear bs az bB
         refine d.out _ _ trivial (fun hHeld=>?_)
         clear d K
         try simp only[Act.put,sA,sZ,sS]
         refine rd 11 rfl (fun K d=>?_)
         refine aAn (o:=⟨some 106,_,_,_,_,_⟩) intE rfl (.tmp 102) (.tmp 105) rfl wd.heap.size A7 (a+1) c7 _ rfl bK.out (cutA A2 c2 a) (k-a) (c2-a) (iv (who.drop a)) rfl (k+1) bH.out (a4.out _ ao.out).1 (a4.out _ ao.out).2 (aCI _) (by omega) (by omega) (by unfold maxLen;omega) ?_
         intro A8 c8 w8 bx aC bF
         have bh:=yH (gr.out▸bx)
         have cc:=yH (ao.out.trans (below_grown aC ao.out.size (fun q hq=>(OwnE.ltB bK.out q hq).1)))
         clear bx aC bF
         refine d.out _ _ trivial (fun hHeld=>?_)
         clear d K
         try simp only[Act.put,sA,sZ,sS]
         refine tq 12 16 rfl (fun W hSw=>by go_simp;try (with_reducible rfl)) ?_
         try simp only[Act.put,sA,sZ,sS]
         refine wpAnyH_done (by kernel_rfl) ?_ _
         refine NoPanic.normal ?_
         try go_wp2_with fail
         go_roundw
         case measure=>simp[intOf];omega
         case rel=>exact⟨k+1,q3,A8,c8,A5,c5,_,by omega,by go_num,rfl,rfl,yH (eb.out A8 c8 _ bh.out cc.out)⟩
    ·obtain rfl:k=n1:=by omega
     obtain⟨i1,i2,i3,i4,i5⟩:=aAs HI.out L ce.out k (by rw[cY.out];exact yR _)
     obtain⟨aI,ai,aH,aj,bt,ay,ff⟩:=eG.out
     have dh:L.take k=L:=List.take_of_length_le (by rw[cY.out];exact yR _)
     rw[dh]at i1 i2 i3 i4 i5 aI ai aj ay
     rcases hdk:Mk.dataAll m L with⟨n,who⟩
     rw[hdk]at i1 i2 i3 i4 i5 aI ai aj
     dsimp only at i1 i2 i3 i4 i5 aI ai aj
     have gn:=yH hdk
     have cq:=yH aI
     have fm:=yH ai
     have ci:=yH aH
     have ct:=yH aj
     have dz:=yH bt
     have ca:=yH ay
     have av:=yH i1
     have bX:=yH i3
     have ds:=yH i5
     have dP:=yH i4
     have aV:=yH i2
     have fw:k≤16:=fi
     clear hdk aI ai aH aj bt ay ff i1 i2 i3 i5 eG dh gD
     rename World=>wA
     obtain⟨fA,ih⟩: ∃f:Nat→Nat,∀i,f i=(Mk.kn n (who.getD i 0)).at_:=⟨_,fun i=>rfl⟩
     obtain⟨hA,iV⟩: ∃f:Nat→Int,∀i,f i=Mk.sum n (Mk.kn n (who.getD i 0)).text:=⟨_,fun i=>rfl⟩
     have cX:=yH ih
     have ee:=yH iV
     clear ih iV
     have eF:=yH fun(x:Nat) (hx:x<n.datas.length)=>show Mk.kn n x∈n.datas from by
      unfold Mk.kn
      rw[List.getD_eq_getElem?_getD,List.getElem?_eq_getElem hx]
      exact List.getElem_mem hx
     have eQ:=yH fun(i:Nat) (hi:i<k)=>show who.getD i 0<n.datas.length from by
      rw[List.getD_eq_getElem?_getD,List.getElem?_eq_getElem (by rw[aV.out];exact hi:i<who.length)]
      exact bX.out _ (List.getElem_mem _)
     have cz:q.dl.length=n.datas.length:=by rw[←cq.out.dm,List.length_map]
     obtain⟨nd,cp⟩: ∃x,q.nd=x:=⟨_,rfl⟩
     have HNd:=yH cp
     have a2:=yH (show nd=n.datas.length by rw[←cp,←aAy cq.out.dr,cz])
     have bV:=yH cz
     clear cp cz
     have hnd9:nd≤100000:=by have:=av.out.dn;have:=a2.out;omega
     go_wp2
     go_loopw [15,21] (fun a15 a21 wr=> ∃(i:Nat) (A9:Option Addr) (c9:Nat),i≤k∧a21= .int .i64 (i:Int)∧a15= .slice A9 i c9∧Hid (OwnE 175 2 wr wA.heap.size A9 i c9 (itv (fun i=>(fA i:Int)) hA i))∧Hid (Below wA.heap.size wA wr)) (fun _ i _=>k-(intOf i).toNat)
     case atStart=>exact⟨0,none,0,Nat.zero_le _,rfl,rfl,yH (OwnE.nil _ _ (yR _)),yH (Below.refl _ _)⟩
     case round=>
      obtain⟨i,A9,c9,j8,rfl,rfl,cW,aq⟩:=hrel
      by_cases bG:i<k
      ·have hx:=eQ.out i bG
       have cO:=At.below cq.out aq.out
       have aA:wr.drew.cell? ⟨g,144,none⟩=some (.slice q.D nd q.cd):=HNd.out▸At.cd (At.drew cO)
       obtain⟨bw,dX,aQ⟩:=aEf (ct.out.below aq.out).own i (by rw[aV.out];exact bG)
       subst dX
       obtain⟨H,aa,cR,d0,d1,d2,d3,d4⟩:=aBp cO.dr (who.getD i 0) (by rw[bV.out];exact hx)
       rw[aa]at aA
       rw[kn_at cO.dm _ (by rw[bV.out];exact hx)]at d0 d1 d2 d3
       rw[←cX.out]at d1
       have j6:who.getD i 0<nd:=by rw[a2.out];exact hx
       have ej:=av.out.dat _ (eF.out _ hx)
       have gQ:=ee.out i
       have iQ:=ej.2.1
       have jy:=ej.2.2.1
       have kc:fA i≤100000:=by rw[cX.out];omega
       generalize jC:Mk.kn n (who.getD i 0)=kx at*
       obtain⟨tx,ax,sx,nx,rx⟩:=kx
       dsimp only at d0 d2 d3 gQ iQ jy
       have jq:=yH gQ
       obtain⟨Av,nv,cv,ev,_,_⟩:=cO.da _ (List.getElem_mem (by rw[bV.out];exact hx:who.getD i 0<q.dl.length))
       rw[ev]at d4
       clear ev
       generalize who.getD i 0=x at*
       clear jC ej gQ aa
       have e0:wr.drew.cell? ⟨H,x*5,none⟩=some (.string (T tx)):=d0
       have e1:wr.drew.cell? ⟨H,x*5+1,none⟩=some (.int .u64 (fA i:Int)):=d1
       have e2:wr.drew.cell? ⟨H,x*5+2,none⟩=some (.int .i64 (sx:Int)):=d2
       have e3:wr.drew.cell? ⟨H,x*5+3,none⟩=some (.int .i64 (nx:Int)):=d3
       have e4:wr.drew.cell? ⟨H,x*5+4,none⟩=some (.slice Av nv cv):=d4
       have e5:wr.drew.cell? ⟨bw,i,none⟩=some (.int .i64 (x:Int)):=aQ
       have bY:=yH fun(W:World) (hW:Below wr.heap.size wr W)=>show W.cell? ⟨g,144,none⟩=some (.slice (some ⟨H,0,none⟩) nd q.cd)∧W.cell? ⟨H,x*5,none⟩=some (.string (T tx))∧W.cell? ⟨H,x*5+1,none⟩=some (.int .u64 (fA i:Int))∧W.cell? ⟨H,x*5+2,none⟩=some (.int .i64 (sx:Int))∧W.cell? ⟨H,x*5+3,none⟩=some (.int .i64 (nx:Int))∧W.cell? ⟨H,x*5+4,none⟩=some (.slice Av nv cv)∧W.cell? ⟨bw,i,none⟩=some (.int .i64 (x:Int))from
        ⟨(hW.cell (p:=⟨g,144,none⟩) cO.st.st.lt).trans aA,(hW.cell (p:=⟨H,x*5,none⟩) cR).trans d0,(hW.cell (p:=⟨H,x*5+1,none⟩) cR).trans d1,(hW.cell (p:=⟨H,x*5+2,none⟩) cR).trans d2,(hW.cell (p:=⟨H,x*5+3,none⟩) cR).trans d3,(hW.cell (p:=⟨H,x*5+4,none⟩) cR).trans d4,(hW.cell (p:=⟨bw,i,none⟩) (aAH aQ)).trans aQ⟩
       have d8:=yH (show Below wr.heap.size wr (wr.alloc (.cells #[.string {data:= #[]},.int .u64 0,.int .i64 0,.int .i64 0,.slice none 0 0] 173)).drew from((Below.refl _ _).alloc (yR _) _).drew)
       have bk:=yH (show Below wr.heap.size wr (wr.alloc (.cells #[.string (T tx),.int .u64 (fA i:Int),.int .i64 (sx:Int),.int .i64 (nx:Int),.slice Av nv cv] 173)).drew from((Below.refl _ _).alloc (yR _) _).drew)
       go_upto_region 22 with fail
       go_region_held3 (fun W=>W.cell? ⟨g,144,none⟩=some (.slice (some ⟨H,0,none⟩) nd q.cd)∧W.cell? ⟨H,x*5,none⟩=some (.string (T tx))∧W.cell? ⟨H,x*5+1,none⟩=some (.int .u64 (fA i:Int))∧W.cell? ⟨H,x*5+2,none⟩=some (.int .i64 (sx:Int))∧W.cell? ⟨H,x*5+3,none⟩=some (.int .i64 (nx:Int))∧W.cell? ⟨H,x*5+4,none⟩=some (.slice Av nv cv)∧W.cell? ⟨bw,i,none⟩=some (.int .i64 (x:Int))) (first|(with_reducible exact⟨aA,e0,e1,e2,e3,e4,e5⟩)|(exact bY.out _ d8.out)|(exact bY.out _ bk.out)|go_keep) (fail)
       have RK:=yH (Blk.drew (Blk.new wr [.string (T tx),.int .u64 (fA i:Int),.int .i64 (sx:Int),.int .i64 (nx:Int),.slice Av nv cv] 173))
       generalize (wr.alloc (.cells #[.string (T tx),.int .u64 (fA i:Int),.int .i64 (sx:Int),.int .i64 (nx:Int),.slice Av nv cv] 173)).drew=wk at*
       clear aA e0 e1 e2 e3 e4 e5 d0 d1 d2 d3 d4 aQ bY d8
       have hbw:=bk.out.size
       have cM:=yH (At.below cO bk.out)
       have eA:=yH fun(W:World) (hW:Below wk.heap.size wk W)=>show(fun W:World=>W.cell? ⟨g,51,none⟩=some (.bool n.C.keyed)∧W.rangeAt g 0 (fileV n.C)∧W.cell? ⟨wr.heap.size,1,none⟩=some (.int .u64 (fA i:Int))∧W.cell? ⟨wr.heap.size,0,none⟩=some (.string (T tx))) W from
        ⟨(At.below cM.out hW).st.st.cell (Mk.get_keyed _ _),Mk.file_range (At.below cM.out hW).st.st,(RK.out.below hW RK.out.lt).cell (i:=1) rfl,(RK.out.below hW RK.out.lt).cell (i:=0) rfl⟩
       have km:=aq.out.size
       have jH:=yH fun(W W0:World) (hW:Below wk.heap.size wk W0) (hg:W0.grownBy W (ownB A9))=>show(fun W:World=>W.cell? ⟨g,51,none⟩=some (.bool n.C.keyed)∧W.rangeAt g 0 (fileV n.C)∧W.cell? ⟨wr.heap.size,1,none⟩=some (.int .u64 (fA i:Int))∧W.cell? ⟨wr.heap.size,0,none⟩=some (.string (T tx))) W from by
        have fJ: ∀j',ownB A9=some j'→wA.heap.size≤j'∧j'<wr.heap.size:=OwnE.ltB cW.out
        have hc:=(At.below cM.out hW).st.st
        have ko:g<wA.heap.size:=(At.lt cq.out g (.inl rfl)).2
        have A:Blk W g _ 157:=(hg.block g hc.lt (fun e=>by have:=(fJ g e.symm).1;omega)).trans hc
        have i8:=RK.out.below hW RK.out.lt
        have Z:Blk W wr.heap.size _ 173:=(hg.block wr.heap.size i8.lt (fun e=>by have:=(fJ _ e.symm).2;omega)).trans i8
        exact⟨A.cell (Mk.get_keyed _ _),Mk.file_range A,Z.cell (i:=1) rfl,Z.cell (i:=0) rfl⟩
       obtain⟨ns,ef⟩: ∃ns,tx.length=ns:=⟨_,rfl⟩
       have HS:=yH ef
       clear ef
       have HO:=yH fun(W:World) (c:Nat) (h:Bytes W (some ⟨wk.heap.size,0,none⟩) tx)=>aFO n.C.keyed n.C.F _ tx ns c W av.out.F h HS.out (by rw[←HS.out];omega)
       rw[show ofS n.C.keyed (idL n.C.F) tx=hA i from jq.out.symm]at HO
       obtain⟨jX,mk,eI⟩:=aBL tx iQ
       have cP:=fun w=>(eI w).1
       simp only[HS.out]at cP
       have aT:=yH ((eI wk.drew).2.1 wk.heap.size rfl)
       have gy:=yH (((Below.refl wk.heap.size wk).drew).trans (eI wk.drew).2.2.below)
       clear eI
       have fO:=Tryz.underlying37
       have jv:(Tryz.prog.info? 37).map (·.size)=some (fileV n.C).length:=by kernel_rfl
       go_upto_region 23 with fail
       refine wp_region_noPanic ?_
       refine wp_region_held_drew (S:=fun W:World=>W.cell? ⟨g,51,none⟩=some (.bool n.C.keyed)∧W.rangeAt g 0 (fileV n.C)∧W.cell? ⟨wr.heap.size,1,none⟩=some (.int .u64 (fA i:Int))∧W.cell? ⟨wr.heap.size,0,none⟩=some (.string (T tx))) (by kernel_rfl) (by exact eA.out _ (Below.refl _ _).drew) (fun hHeld=>?_)
       refine tq 0 123 rfl (fun W hSw=>by go_simp;try (with_reducible rfl)) ?_
       try simp only[Act.put,sA,sZ,sS]
       refine tq 1 124 rfl (fun W hSw=>by go_simp;try (with_reducible rfl)) ?_
       try simp only[Act.put,sA,sZ,sS]
       refine tq 2 125 rfl (fun W hSw=>by have bC:=hSw.2.2.1;go_simp;try (with_reducible rfl)) ?_
       try simp only[Act.put,sA,sZ,sS]
       refine tq 3 126 rfl (fun W hSw=>by go_simp;try (with_reducible rfl)) ?_
       try simp only[Act.put,sA,sZ,sS]
       refine tq 4 127 rfl (fun W hSw=>by go_simp;try (with_reducible rfl)) ?_
       try simp only[Act.put,sA,sZ,sS]
       refine tq 5 128 rfl (fun W hSw=>by go_simp;try (with_reducible rfl)) ?_
       try simp only[Act.put,sA,sZ,sS]
       refine tq 6 129 rfl (fun W hSw=>by go_simp;try (with_reducible rfl)) ?_
       try simp only[Act.put,sA,sZ,sS]
       refine tq 7 130 rfl (fun W hSw=>by have bC:=hSw.1;go_simp;try (with_reducible rfl)) ?_
       try simp only[Act.put,sA,sZ,sS]
       refine tq 8 131 rfl (fun W hSw=>by go_simp;try (with_reducible rfl)) ?_
       try simp only[Act.put,sA,sZ,sS]
       refine tq 9 132 rfl (fun W hSw=>by go_simp;try (with_reducible rfl)) ?_
       try simp only[Act.put,sA,sZ,sS]
       refine tq 10 133 rfl (fun W hSw=>by go_simp;try (with_reducible rfl)) ?_
       try simp only[Act.put,sA,sZ,sS]
       refine tq 11 134 rfl (fun W hSw=>by go_simp;try (with_reducible rfl)) ?_
       try simp only[Act.put,sA,sZ,sS]
       refine tk (i:=12) (oi:=⟨some 135,_,_,_,_,_⟩) rfl (yieldsIf_load_mid (by rfl) _ _ rfl _ _ rfl _ _ (fun _ h=>h.2.1) fO rfl jv) ?_
       try simp only[Act.put,sA,sZ,sS]
       refine tq 13 136 rfl (fun W hSw=>by go_simp;try (with_reducible rfl)) ?_
       try simp only[Act.put,sA,sZ,sS]
       refine tq 14 137 rfl (fun W hSw=>by have bC:=hSw.2.2.2;go_simp;try (with_reducible rfl)) ?_
       try simp only[Act.put,sA,sZ,sS]
       refine rd 15 rfl (fun K d=>?_)
       go_simp
       skip
       try go_wp2_with fail
       refine d.out _ _ (by exact eA.out _ gy.out) (fun hHeld=>?_)
       clear d K
       try simp only[Act.put,sA,sZ,sS]
       refine rd 16 rfl (fun K d=>?_)
       go_simp
       (refine(HO.out _ _ aT.out).mono ?_);rintro e wO ⟨rfl,hu⟩;have dw:=yH (gy.out.trans (hu.mono gy.out.size));clear hu
       try go_wp2_with fail
       refine d.out _ _ (by exact eA.out _ dw.out) (fun hHeld=>?_)
       clear d K
       try simp only[Act.put,sA,sZ,sS]
       refine tq 17 140 rfl (fun W hSw=>by go_simp;try (with_reducible rfl)) ?_
       try simp only[Act.put,sA,sZ,sS]
       refine rd 18 rfl (fun K d=>?_)
       go_simp
       skip
       try go_wp2_with fail
       refine d.out _ _ (by exact eA.out _ (dw.out.alloc dw.out.size _)) (fun hHeld=>?_)
       clear d K
       try simp only[Act.put,sA,sZ,sS]
       refine rd 19 rfl (fun K d=>?_)
       have bO:=dw.out.alloc dw.out.size (.cells #[.int .u64 (fA i:Int),.int .u64 (hA i)] 175)
       refine aAn (o:=⟨some 142,_,_,_,_,_⟩) aQq rfl (.tmp 123) (.tmp 141) rfl wA.heap.size A9 i c9 (itv (fun i=>(fA i:Int)) hA i) rfl (cW.out.kept (bk.out.trans (bO.mono bk.out.size)) (yR _)) (some ⟨wO.heap.size,0,none⟩) 1 1 [.int .u64 (fA i:Int),.int .u64 (hA i)] rfl (i+1) rfl rfl (fun q' u dA=>⟨_,rfl,Blk.news (Blk.new wO _ 175) q' u dA⟩) (by simp[Value.oneCell']) (by omega) (by omega) (by unfold maxLen;omega) ?_
       intro ik ij w10 fk b4 f7
       have hQ:=yH (show OwnE 175 2 w10 wA.heap.size ik (i+1) ij (itv (fun i=>(fA i:Int)) hA (i+1))from by rw[aFx];exact fk)
       have hV:=yH (show Below wA.heap.size wA w10 from(aq.out.trans ((bk.out.trans (bO.mono bk.out.size)).mono aq.out.size)).trans (below_grown b4 (by have:=aq.out.size;have:=bk.out.size;have:=bO.size;omega) (fun q' dA=>(OwnE.ltB cW.out q' dA).1)))
       have cG:=jH.out w10 _ bO b4
       clear fk b4 f7 bO
       refine d.out _ _ cG (fun hHeld=>?_)
       clear d K
       try simp only[Act.put,sA,sZ,sS]
       refine tq 20 15 rfl (fun W hSw=>by go_simp;try (with_reducible rfl)) ?_
       try simp only[Act.put,sA,sZ,sS]
       refine wpAnyH_done (by kernel_rfl) ?_ _
       refine NoPanic.normal ?_
       try go_wp2_with fail
       go_roundw
       case rel=>exact⟨i+1,ik,ij,by omega,by go_num,rfl,hQ,hV⟩
       case measure=>simp[intOf];omega
      ·obtain rfl:i=k:=by omega
       rename World=>wB
       have eW:=yH (At.below cq.out aq.out)
       have ap:=yH (ci.out.below aq.out)
       have cs:=yH (ct.out.below aq.out)
       have cg:=yH (dz.out.below aq.out)
       have a9:=yH (ca.out.below aq.out)
       have gf:=yH fun(j:Nat)=>show 0≤hA j∧hA j≤18446744073709551615 from by rw[ee.out];exact aF6 _ _ _
       have fZ:=yH (own_in2 cW.out (fun j hj=>⟨by omega,by
        have A:=eQ.out j hj
        have Z:=(av.out.dat _ (eF.out _ A)).1
        rw[cX.out]
        omega⟩) (fun j _=>gf.out j))
       have fg:=cH.out
       have cL:=yH (show Blk wB w.heap.size (idE K) 37 from(ap.out.kept.block _ (yL R1.out.lt ar.out.size) (fun hf=>absurd (bM _ hf) (Nat.lt_irrefl _))).trans ((ar.out.block _ R1.out.lt).trans R1.out))
       have ia:n.h.N 9=s9:=ds.out.n9.trans aG.out
       have cA:=yH (aDE B g q.bb q.cb q.S n wB eW.out.st)
       rw[ia]at cA
       have eZ:s9+1≤18446744073709551615:=by have:=HT.out;omega
       have ju:IntKind.u64.wrap (s9+1)=s9+1:=by rw[IntKind.wrap_u64];omega
       obtain⟨sq,jl⟩: ∃x,s9+1=x:=⟨_,rfl⟩
       have dD:=yH jl
       go_upto_region 25 with(first|(go_at_call 66;(refine cA.out.mono ?_);rintro e w' ⟨rfl,rfl⟩)|fail)
       have ix:0≤sq∧sq≤18446744073709551615:=by omega
       clear ju ia
       obtain⟨eH,cD⟩: ∃x,x=xr (L.map fun q=>pay q.1 q.2):=⟨_,rfl⟩
       have eX:=yH (aM3 w2.heap.size i c3 g q A3 xs _ wB.drew (OwnE.drew cg.out.own) (a9.out.below (Below.refl _ _).drew) (by omega) (fun l hl=>by
        obtain⟨q',dA,rfl⟩:=List.mem_map.1 hl
        have A:=ce.out q' dA
        rw[Fa.pay_len]
        omega))
       rw[←cD]at eX
       have i0:(0:Int)≤(eH:Nat)∧((eH:Nat):Int)≤18446744073709551615:=by have:=aPi (L.map fun q=>pay q.1 q.2);rw[←cD]at this;omega
       have ge:=yH cD
       clear cD
       have cZ:=yH (aFc sq real mono K (eH:Int) A9 i c9 (fun j=>(fA j:Int)) hA wB.drew (fZ.out.keep (Below.refl _ _).drew) (by omega) HK.out ix hr hm i0)
       have cf:objB 3 (entB sq real mono K (eH:Int) (prs (fun j=>(fA j:Int)) hA i))=Mk.eobj n who (L.map fun q=>pay q.1 q.2) sq real mono K:=by
        unfold Mk.eobj
        rw[←ge.out,show(fun i=>((Mk.kn n (who.getD i 0)).at_:Int))=(fun j=>(fA j:Int))from funext fun j=>by rw[cX.out],show(fun i=>Mk.sum n (Mk.kn n (who.getD i 0)).text)=hA from funext fun j=>(ee.out j).symm,aV.out]
       have ic:(Mk.eobj n who (L.map fun q=>pay q.1 q.2) sq real mono K).length=16+(48+16*i):=by
        rw[←cf,aBj,aDC,show padN (48+16*i)=0 by unfold padN;omega]
        omega
       rw[cf,show padN (48+16*i)=0 by unfold padN;omega]at cZ
       unfold Owned at cZ
       obtain⟨eo,g8⟩: ∃x,x=Mk.eobj n who (L.map fun q=>pay q.1 q.2) sq real mono K:=⟨_,rfl⟩
       rw[←g8]at cZ ic
       have g9:=yH g8
       clear cf g8
       have jU:n.b.length≤42400:=by have:=dP.out;omega
       have g0: ∀j,q.foot g j→j≠w.heap.size:=fun j hj e=>by
        rcases ap.out.foot j hj with A|A
        ·have:=bM j A;omega
        ·have:=ar.out.size;have:=R1.out.lt;omega
       have ed:=yH fun(W:World) (hW:Below wB.heap.size wB W)=>show W.rangeAt w.heap.size 0 (idE K)from aGv (cL.out.below hW cL.out.lt)
       have dy:=yH fun(W W':World) (hW:Below wB.drew.heap.size wB.drew W) (p':Pl) (hP:Path g q W p' W')=>show W'.rangeAt w.heap.size 0 (idE K)from by
        have A:=cL.out.below ((Below.refl wB.heap.size wB).drew.trans hW) cL.out.lt
        exact aGv (show Blk W' w.heap.size (idE K) 37 from(hP.kept.block _ A.lt (fun hf=>g0 _ hf rfl)).trans A)
       have fO:=Tryz.underlying37
       have idJ:(Tryz.prog.info? 37).map (·.size)=some (idE K).length:=by kernel_rfl
       refine wp_region_noPanic ?_
       refine wp_region_held_drew (S:=fun W:World=>W.rangeAt w.heap.size 0 (idE K)) (by kernel_rfl) (by exact ed.out _ (Below.refl _ _).drew) (fun hHeld=>?_)
       refine tq 0 146 rfl (fun W hSw=>by go_simp;try (with_reducible rfl)) ?_
       try simp only[Act.put,sA,sZ,sS]
       refine tq 1 147 rfl (fun W hSw=>by go_simp;try (with_reducible rfl)) ?_
       try simp only[Act.put,sA,sZ,sS]
       refine tq 2 148 rfl (fun W hSw=>by go_simp;try (with_reducible rfl)) ?_
       try simp only[Act.put,sA,sZ,sS]
       refine tq 3 149 rfl (fun W hSw=>by go_simp;try (with_reducible rfl)) ?_
       try simp only[Act.put,sA,sZ,sS]
       refine tk (i:=4) (oi:=⟨some 150,_,_,_,_,_⟩) rfl (yieldsIf_load_mid (by rfl) _ _ rfl _ _ rfl _ _ (fun _ h=>h) fO rfl idJ) ?_
       try simp only[Act.put,sA,sZ,sS]
       refine tq 5 151 rfl (fun W hSw=>by go_simp;try (with_reducible rfl)) ?_
       try simp only[Act.put,sA,sZ,sS]
       refine tq 7 153 rfl (fun W hSw=>by go_simp;try (with_reducible rfl)) ?_
       try simp only[Act.put,sA,sZ,sS]
       refine rd 6 rfl (fun K d=>?_)
       go_simp
       (refine(eX.out).mono ?_);rintro e wX ⟨rfl,rfl⟩
       try go_wp2_with fail
       refine d.out _ _ (by exact ed.out _ (Below.refl _ _).drew) (fun hHeld=>?_)
       clear d K
       try simp only[Act.put,sA,sZ,sS]
       refine tq 8 154 rfl (fun W hSw=>by go_simp;try (with_reducible rfl)) ?_
       try simp only[Act.put,sA,sZ,sS]
       refine rd 9 rfl (fun K d=>?_)
       go_simp
       (refine(cZ.out).mono ?_);rintro e w4 ⟨A4,c4,rfl,iz,gT⟩;have eR:=yH iz;have aW:=yH gT;have cU:=yH (At.below (At.drew eW.out) gT);clear iz gT
       try go_wp2_with fail
       refine d.out _ _ (by exact ed.out _ ((Below.refl _ _).drew.trans aW.out)) (fun hHeld=>?_)
       clear d K
       try simp only[Act.put,sA,sZ,sS]
       refine rd 10 rfl (fun K d=>?_)
       go_simp
       (refine(aCc A4 _ c4 _ w4 cU.out eR.out.bytes eR.out.2.1 (by have:=av.out.len;omega) (by omega) (by have:=av.out.n7;omega)).mono ?_);rintro e w5 ⟨rfl,b5,ja,hB,go⟩;have HA5:=yH hB;have eP:=yH go;have fY:=dy.out w4 w5 aW.out _ go;clear hB go
       try go_wp2_with fail
       refine d.out _ _ (by exact fY) (fun hHeld=>?_)
       clear d K
       try simp only[Act.put,sA,sZ,sS]
       refine tq 11 24 rfl (fun W hSw=>by go_simp;try (with_reducible rfl)) ?_
       try simp only[Act.put,sA,sZ,sS]
       refine wpAnyH_done (by kernel_rfl) ?_ _
       refine NoPanic.normal ?_
       obtain⟨n8,gz,fy,jR⟩:=av.out.mn
       have bv:w5.cell? ⟨g,127,none⟩=some (.int .u64 (n8:Int)):=(At.cN HA5.out 8 127 (by decide) rfl).trans (congrArg (fun x=>some (Value.int .u64 x)) gz)
       have jM:n8≤42400:=by omega
       have I2:=aA7 av.out eo (by omega) (by omega)
       have kj:=aAM n eo
       obtain⟨Am,nm,cm,eM,ji,_⟩:=id HA5.out.ma
       have eM:q.M= .slice Am nm cm:=eM
       have bT:w5.cell? ⟨g,146,none⟩=some (.slice Am nm cm):=eM▸At.cm (p:={q with bb:=b5,cb:=ja}) HA5.out
       have dv:=yH (show Arr w5 (Pl.away {q with bb:=b5,cb:=ja} B g) (.slice Am nm cm) n.main from eM▸HA5.out.ma)
       have dM:=yH (fy.mono (show n.b.length≤(n.object eo).b.length by omega))
       have cQ:=yH (link_any Am nm cm n.main n8 176 n.b.length w5 HA5.out (by have:=I2.len;omega) (by have:=I2.n7;omega) (by have:=I2.n18;omega) dv.out dM.out (by have:=av.out.len;omega) (by omega) (by omega) (by omega))
       obtain⟨k1,k2,k3,k4,k5,k6,k7,k8,k9,eJ,gJ,gK⟩:=aDD I2 (fr:=176) n.b.length dM.out (by have:=av.out.len;omega)
       have cI:=yH (show Mk.linked (n.object eo) n.b.length n8={(Mk.link (n.object eo) n.main n8 176 n.b.length).1 with main:=(Mk.link (n.object eo) n.main n8 176 n.b.length).2.1,h:={setN (Mk.link (n.object eo) n.main n8 176 n.b.length).1.h 11 (((Mk.link (n.object eo) n.main n8 176 n.b.length).2.1.getD 0 0:Nat):Int)with ta:=(((Mk.link (n.object eo) n.main n8 176 n.b.length).2.1.getLastD 0:Nat):Int),ti:=(((Mk.link (n.object eo) n.main n8 176 n.b.length).2.2:Nat):Int)}}from rfl)
       have bH:=yH gz
       clear gz fy eM ji
       rcases bU:Mk.link (n.object eo) n.main n8 176 n.b.length with⟨m6,ab,af⟩
       rw[bU]at k1 k2 k3 k4 k5 k6 k7 k8 k9 eJ gJ gK cQ cI
       dsimp only at k1 k2 k3 k4 k5 k6 k7 k8 k9 eJ gJ gK cI
       have he:=yH k1
       have dQ:=yH k2
       have hZ:=yH k5
       have iT:=yH k8
       have cG:=yH eJ
       have ah:=yH ((ap.out.drew.below aW.out).trans eP.out)
       have gY:=yH (((Path.refl g q wB).drew.below aW.out).trans eP.out)
       unfold Linked at cQ
       clear k1 k2 k5 k6 k7 k8 k9 eJ gJ bU
       go_upto_region 28 with fail
       go_upto_region 29 with(first
        |(go_at_call 82;(refine cQ.out.mono ?_;rintro e w6 ⟨_,p6,rfl,⟨A6,n6,c6,rfl,hl6,hH⟩,b6,eu⟩;have dd:=yH (show Arr w6 (Pl.away p6 B g) (.slice A6 n6 c6) ab from⟨A6,n6,c6,rfl,hl6,hH⟩);have gp:=yH b6;have fd:=yH eu;have i6:=At.cm b6;have i9:=At.fz b6 146;clear b6 eu hH))
        |fail)
       have eB:=At.setM gp.out (.slice A6 n6 c6) ab dd.out
       have cl:=yH eB.1
       have gk:=yH (ah.out.trans (fd.out.trans eB.2))
       have fS:=yH (gY.out.trans (fd.out.trans eB.2))
       clear eB i6 i9 bv bT
       generalize w6.setCell ⟨g,146,none⟩ (.slice A6 n6 c6)=w7 at*
       have gA:0<ab.length:=by
        rcases Nat.eq_zero_or_pos ab.length with h|h
        ·have A:=dQ.out.le
         rw[h]at A
         rw[show rooms 0=0 from rfl]at A
         omega
        ·exact h
       have dt:=cl.out.ma
       obtain⟨bA,hbA,iJ⟩:=aGa dt 0 (by omega) (ab.getD 0 0) rfl
       obtain⟨aF,rfl⟩: ∃n',n6=n'+1:=⟨n6-1,by omega⟩
       obtain⟨j0,a3,er⟩:=aGa dt aF (by omega) (ab.getLastD 0) (aCB ab aF hl6)
       rw[hbA]at a3
       injection a3 with a3
       injection a3 with a3
       subst a3
       subst hbA
       have jt:ab.getLastD 0≤100000:=by
        have A:=aA6 dQ.out (List.ne_nil_of_length_pos gA)
        omega
       have eU:=yH hl6
       obtain⟨f6,fX⟩: ∃x,x=ab.getD 0 0:=⟨_,rfl⟩
       obtain⟨l6,et⟩: ∃x,x=ab.getLastD 0:=⟨_,rfl⟩
       rw[←fX]at iJ
       rw[←et]at er jt
       have gV:=yH fX
       have cy:=yH et
       clear fX et hl6 dt
       have bT:w7.cell? ⟨g,146,none⟩=some (.slice (some ⟨bA,0,none⟩) (aF+1) c6):=At.cm cl.out
       have iP:=At.cN cl.out 11 130 (by decide) rfl
       have hs:=At.fz cl.out 130
       go_region
       have a6:=yH (At.drew (At.setN cl.out 11 130 (by decide) rfl (f6:Int)))
       have gG:=yH ((gk.out.set 130 (.int .u64 (f6:Int))).drew)
       have gW:=yH ((fS.out.set 130 (.int .u64 (f6:Int))).drew)
       generalize (w7.setCell ⟨g,130,none⟩ (.int .u64 (f6:Int))).drew=w8 at*
       clear bT iP hs iJ er
       have fH:ab.length=aF+1:=eU.out
       obtain⟨ki,bS,er⟩:=aGa a6.out.ma aF (by omega) (ab.getLastD 0) (aCB ab aF fH)
       injection bS with bS
       injection bS with bS
       subst bS
       rw[←cy.out]at er
       clear fH
       have bT:w8.cell? ⟨g,146,none⟩=some (.slice (some ⟨bA,0,none⟩) (aF+1) c6):=At.cm a6.out
       have hR:=At.cta a6.out
       have iD:=At.fz a6.out 139
       have hS:=At.cti a6.out
       have hF:=At.fz a6.out 140
       have kl:af≤256:=gK
       have j9:aF≤25001:=by have A:=aGf dQ.out (by omega);have Z:=eU.out;omega
       have jK:IntKind.i64.wrap (aF:Int)=(aF:Int):=by rw[IntKind.wrap_i64];omega
       have bP:IntKind.u32.wrap (l6:Int)=(l6:Int):=by rw[IntKind.wrap_u32];omega
       have jm:IntKind.u32.wrap (af:Int)=(af:Int):=by rw[IntKind.wrap_u32];omega
       go_wp2_with fail
       go_region
       have fe:=yH (show At (((w8.setCell ⟨g,139,none⟩ (.int .u32 (l6:Int))).setCell ⟨g,140,none⟩ (.int .u32 (af:Int))).drew) B g {p6 with M:= .slice (some ⟨bA,0,none⟩) (aF+1) c6} (Mk.linked (n.object eo) n.b.length n8)from by
        have A:=At.drew (At.setTi (At.setTa a6.out (l6:Int)) (af:Int))
        rw[cI.out,←gV.out,←cy.out]
        exact A)
       have fb:=yH (((gG.out.set 139 (.int .u32 (l6:Int))).set 140 (.int .u32 (af:Int))).drew)
       have eY:=yH (((gW.out.set 139 (.int .u32 (l6:Int))).set 140 (.int .u32 (af:Int))).drew)
       generalize ((w8.setCell ⟨g,139,none⟩ (.int .u32 (l6:Int))).setCell ⟨g,140,none⟩ (.int .u32 (af:Int))).drew=w9 at*
       clear bT hR hS iD hF er jK bP jm
       obtain⟨g1,g2,g3,g4,g5,g6,g7⟩:=aBx I2 n.b.length n8 bH.out dM.out (by omega) (by have:=av.out.len;omega)
       obtain⟨q9,hG⟩: ∃y,y=({p6 with M:= .slice (some ⟨bA,0,none⟩) (aF+1) c6}:Pl):=⟨_,rfl⟩
       rw[←hG]at fe fb eY
       clear hG
       generalize i7:Mk.linked (n.object eo) n.b.length n8=mL at*
       have io:=yH i7
       clear i7
       have ha:InvM n.b.length 0 mL:=⟨g1,fun k' hk'=>by rw[g4]at hk';exact(av.out.dat k' hk').2.2.2.2,by omega⟩
       have fT:=yH (aAL ha n.b.length who (fun y hy=>by rw[g4];exact bX.out y hy) (by rw[aV.out];exact fw))
       have hN:=yH g4
       have bc:=yH g5
       have hI:=yH g7
       have jQ:mL.b.length≤45100:=by omega
       have ck:=yH (cs.out.path eY.out)
       clear g1 g4 g5 g6 g7 I2
       go_wp2
       go_loopw [27] (fun a27 wr=> ∃(j:Nat) (Y:Pl),j≤i∧a27= .int .i64 (j:Int)∧Hid (At wr B g Y (Mk.markAll n.b.length mL (who.take j)))∧Hid (Path g p w2 Y wr)∧Hid (Side 3 1 wr g Y w2.heap.size A2 i c2 (iv who))) (fun a _=>i-(intOf a).toNat)
       case atStart=>exact⟨0,q9,Nat.zero_le _,rfl,yH (by rw[List.take_zero];exact fe.out),fb,ck⟩
       case round=>
        obtain⟨j,Y,ka,rfl,aS,ac,R⟩:=hrel
        by_cases bG:j<i
        ·have eL:j<who.length:=by rw[aV.out];exact bG
         try clear cw
         try clear eO
         try clear fm
         try clear ci
         try clear ct
         try clear dz
         try clear ca
         try clear dP
         try clear cX
         try clear ee
         try clear eF
         try clear eQ
         try clear HNd
         try clear a2
         try clear bV
         try clear cW
         try clear aq
         try clear eW
         try clear ap
         try clear cs
         try clear cg
         try clear a9
         try clear gf
         try clear fZ
         try clear fg
         try clear cL
         try clear cA
         try clear eX
         try clear ge
         try clear cZ
         try clear ed
         try clear dy
         try clear eR
         try clear aW
         try clear cU
         try clear HA5
         try clear eP
         try clear fY
         try clear dv
         try clear dM
         try clear cQ
         try clear he
         try clear dQ
         try clear hZ
         try clear iT
         try clear cG
         try clear ah
         try clear gY
         try clear dd
         try clear gp
         try clear fd
         try clear cl
         try clear gk
         try clear fS
         try clear eU
         try clear gV
         try clear cy
         try clear a6
         try clear gG
         try clear gW
         try clear fe
         try clear fb
         try clear eY
         try clear ck
         try clear cq
         try clear ce
         try clear dC
         try clear cI
         try clear gn
         try clear g9
         try clear io
         try clear dD
         try clear aG
         try clear HT
         try clear br
         try clear bH
         try clear cH
         try clear ei
         try clear e6
         try clear d7
         try clear bg
         try clear HI
         try clear g0
         obtain⟨u1,u2,u3,u4,u5,u6,u7⟩:=fT.out j (Nat.le_of_lt eL)
         have cn:=yH (aBk n.b.length mL who j eL)
         have ga:who.getD j 0=who[j]:=by rw[List.getD_eq_getElem?_getD,List.getElem?_eq_getElem eL];rfl
         have aJ:who[j]<(Mk.markAll n.b.length mL (who.take j)).datas.length:=by rw[u4,hN.out];exact bX.out _ (List.getElem_mem _)
         have jz:(Mk.markAll n.b.length mL (who.take j)).b.length≤80000:=by omega
         clear u2 u3 u4 u5 u6 u7
         have ii:=aEf R.out.own j eL
         obtain⟨bw,dX,aQ⟩:=ii
         subst dX
         rw[ga]at aQ
         obtain⟨x,gs⟩: ∃y,y=who[j]:=⟨_,rfl⟩
         have ho:=yH (ga.trans gs.symm)
         rw[←gs]at aQ aJ cn
         clear gs ga
         generalize Mk.markAll n.b.length mL (who.take j)=J at*
         have jd:=yH aJ
         obtain⟨A,Z,h3,h4,h5,h6,h7,h8⟩:=aCh u1 n.b.length x aJ
         obtain⟨e1,e2,e3,e4,e5⟩:=u1.inv.dat _ (show Mk.kn J x∈(Mk.bump J).datas from aGn aJ)
         have e1:(Mk.kn J x).at_+64≤J.b.length:=e1
         have e4:Chain J.b.length (Mk.kn J x).arrays ((Mk.kn J x).count-1):=e4
         have jS:=u1.cnt _ (aGn aJ)
         have a0:Y.dl.length=J.datas.length:=by rw[←aS.out.dm,List.length_map]
         obtain⟨V,fG,bE,d0,d1,d2,d3,d4⟩:=aBp aS.out.dr x (by rw[a0];exact aJ)
         have de:=aS.out.da _ (List.getElem_mem (by rw[a0];exact aJ:x<Y.dl.length))
         rw[kn_at aS.out.dm _ (by rw[a0];exact aJ)]at d0 d1 d2 d3 de
         obtain⟨Av,nv,cv,ev,_,_⟩:=id de
         rw[ev]at d4 de
         have jB:=yH de
         obtain⟨aM,bQ⟩: ∃y,Y.nd=y:=⟨_,rfl⟩
         have aA:wr.drew.cell? ⟨g,144,none⟩=some (.slice (some ⟨V,0,none⟩) aM Y.cd):=by rw[←fG,←bQ];exact At.cd (At.drew aS.out)
         have kh:x<aM:=by rw[←bQ,←aAy aS.out.dr,a0];exact aJ
         have jn:aM≤200000:=by
          have h9:=u1.inv.dn
          have h9:J.datas.length≤J.b.length:=h9
          rw[←bQ,←aAy aS.out.dr,a0]
          omega
         clear bQ a0 de ev fG
         have hp:Mk.kn J x=⟨(Mk.kn J x).text,(Mk.kn J x).at_,(Mk.kn J x).slot,(Mk.kn J x).count,(Mk.kn J x).arrays⟩:=rfl
         have iW:=yH hp
         have fa:Mk.hitched n.b.length J x=if(Mk.kn J x).count=0 then({J with b:=put8 J.b ((Mk.kn J x).at_+40) (n.b.length:Nat)},(Mk.kn J x).arrays)else((Mk.link J (Mk.kn J x).arrays ((Mk.kn J x).count-1) ((Mk.kn J x).at_+48) n.b.length).1,(Mk.link J (Mk.kn J x).arrays ((Mk.kn J x).count-1) ((Mk.kn J x).at_+48) n.b.length).2.1):=rfl
         clear hp
         generalize (Mk.kn J x).text=tx at*
         generalize (Mk.kn J x).at_=ax at*
         generalize (Mk.kn J x).slot=sx at*
         generalize (Mk.kn J x).count=nx at*
         generalize (Mk.kn J x).arrays=rx at*
         generalize fl:Mk.hitched n.b.length J x=jE at*
         obtain⟨aX,aY⟩:=jE
         have fK:=yH fl
         clear fl
         dsimp only at A Z h3 h4 h5 h6 h7 h8
         obtain⟨X,hX⟩: ∃X,T tx=X:=⟨_,rfl⟩
         have hO:=yH hX
         rw[hX]at d0
         clear hX
         have ec:=yH (show nx≤200000 by omega)
         have f0:wr.drew.cell? ⟨V,x*5,none⟩=some (.string X):=d0
         have f1:wr.drew.cell? ⟨V,x*5+1,none⟩=some (.int .u64 (ax:Int)):=d1
         have f2:wr.drew.cell? ⟨V,x*5+2,none⟩=some (.int .i64 (sx:Int)):=d2
         have f3:wr.drew.cell? ⟨V,x*5+3,none⟩=some (.int .i64 (nx:Int)):=d3
         have f4:wr.drew.cell? ⟨V,x*5+4,none⟩=some (.slice Av nv cv):=d4
         have f5:wr.drew.cell? ⟨bw,j,none⟩=some (.int .i64 (x:Int)):=aQ
         have bY:=yH fun(W:World) (hW:Below wr.heap.size wr W)=>show W.cell? ⟨g,144,none⟩=some (.slice (some ⟨V,0,none⟩) aM Y.cd)∧W.cell? ⟨V,x*5,none⟩=some (.string X)∧W.cell? ⟨V,x*5+1,none⟩=some (.int .u64 (ax:Int))∧W.cell? ⟨V,x*5+2,none⟩=some (.int .i64 (sx:Int))∧W.cell? ⟨V,x*5+3,none⟩=some (.int .i64 (nx:Int))∧W.cell? ⟨V,x*5+4,none⟩=some (.slice Av nv cv)∧W.cell? ⟨bw,j,none⟩=some (.int .i64 (x:Int))from
          ⟨(hW.cell (p:=⟨g,144,none⟩) aS.out.st.st.lt).trans aA,(hW.cell (p:=⟨V,x*5,none⟩) bE).trans d0,(hW.cell (p:=⟨V,x*5+1,none⟩) bE).trans d1,(hW.cell (p:=⟨V,x*5+2,none⟩) bE).trans d2,(hW.cell (p:=⟨V,x*5+3,none⟩) bE).trans d3,(hW.cell (p:=⟨V,x*5+4,none⟩) bE).trans d4,(hW.cell (p:=⟨bw,j,none⟩) (aAH aQ)).trans aQ⟩
         have d8:=yH (show Below wr.heap.size wr (wr.alloc (.cells #[.string {data:= #[]},.int .u64 0,.int .i64 0,.int .i64 0,.slice none 0 0] 173)).drew from((Below.refl _ _).alloc (yR _) _).drew)
         have bk:=yH (show Below wr.heap.size wr (wr.alloc (.cells #[.string X,.int .u64 (ax:Int),.int .i64 (sx:Int),.int .i64 (nx:Int),.slice Av nv cv] 173)).drew from((Below.refl _ _).alloc (yR _) _).drew)
         go_upto_region 34 with fail
         go_region_held3 (fun W=>W.cell? ⟨g,144,none⟩=some (.slice (some ⟨V,0,none⟩) aM Y.cd)∧W.cell? ⟨V,x*5,none⟩=some (.string X)∧W.cell? ⟨V,x*5+1,none⟩=some (.int .u64 (ax:Int))∧W.cell? ⟨V,x*5+2,none⟩=some (.int .i64 (sx:Int))∧W.cell? ⟨V,x*5+3,none⟩=some (.int .i64 (nx:Int))∧W.cell? ⟨V,x*5+4,none⟩=some (.slice Av nv cv)∧W.cell? ⟨bw,j,none⟩=some (.int .i64 (x:Int))) (first|(with_reducible exact⟨aA,f0,f1,f2,f3,f4,f5⟩)|(exact bY.out _ d8.out)|(exact bY.out _ bk.out)|go_keep) (fail)
         have RK:=yH (Blk.drew (Blk.new wr [.string X,.int .u64 (ax:Int),.int .i64 (sx:Int),.int .i64 (nx:Int),.slice Av nv cv] 173))
         generalize (wr.alloc (.cells #[.string X,.int .u64 (ax:Int),.int .i64 (sx:Int),.int .i64 (nx:Int),.slice Av nv cv] 173)).drew=wk at*
         obtain⟨t,eE⟩: ∃y,y=wr.heap.size:=⟨_,rfl⟩
         rw[←eE]at RK⊢
         have dq:=yH (show ∀k',Y.foot g k'→k'≠t from fun k' h e=>by have:=(At.lt aS.out k' h).2;omega)
         have kg:=yH (show w2.heap.size≤t by rw[eE];exact ac.out.kept.size)
         have gS:=yH eE
         have cM:=yH (At.below aS.out bk.out)
         have jZ:=yH (ac.out.below bk.out)
         have d5:=yH (aAX jB.out (Path.of_below (g:=g) (p:=Y) bk.out))
         have jr:=yH (R.out.below bk.out)
         clear aA f0 f1 f2 f3 f4 f5 d0 d1 d2 d3 d4 aQ bY d8 eE
         have k3:=RK.out.cell (i:=3) rfl
         have jc:=RK.out.cell (i:=1) rfl
         have k4:=RK.out.cell (i:=4) rfl
         have z4:=RK.out.frozen 4
         have jN:=ec.out
         have kb:ax≤100000:=by omega
         rcases Nat.eq_zero_or_pos nx with eS|eS
         ·have jo:((nx:Int)==0)=true:=by simp[eS]
          have hh:=fa
          rw[if_pos eS]at hh
          obtain⟨dN,bU⟩:=Prod.mk.inj hh
          have gH:=yH dN
          have gj:=yH bU
          clear hh fa eS dN bU
          go_upto_region 38 with(first
           |(go_at_call 83;(refine(aAW (ax+40) _ (by omega) _ _ cM.out (by omega) (by omega)).mono ?_);rintro e bJ ⟨rfl,b6,eu⟩;have ir:=yH b6;have dE:=yH eu;clear b6 eu)
           |fail)
          have c0:=yH (show At bJ B g Y aX from by rw[gH.out];exact ir.out)
          have eh:=yH (Path.trans (Path.of_below (g:=g) (p:=Y) bk.out) dE.out)
          have bj:=yH (show ¬Y.foot g t from fun h=>dq.out t h rfl)
          have aw:=yH (show Blk bJ t [.string X,.int .u64 (ax:Int),.int .i64 (sx:Int),.int .i64 (nx:Int),.slice Av nv cv] 173 from(dE.out.kept.block t RK.out.lt bj.out).trans RK.out)
          have bZ:=yH (show Arr bJ (Y.away B g) (.slice Av nv cv) aY from by rw[gj.out];exact aAX d5.out dE.out)
          have dU:=yH (show aX.datas.length=J.datas.length from congrArg List.length h5)
          clear k3 jc k4 z4
          have an:=yH (aw.out.set_ 3 (.int .i64 ((nx:Int)+1)))
          have ek:=yH (At.setK c0.out aw.out (bj.out) 3 (.int .i64 ((nx:Int)+1)))
          have dF:=yH (Path.side eh.out (KeptF.set1 bJ t 3 (.int .i64 ((nx:Int)+1))) (fun k' A=>by rw[show k'=t from A,gS.out];exact yR _))
          have ba:=yH ((aCJ bZ.out aw.out).kept (KeptF.set1 bJ t 3 (.int .i64 ((nx:Int)+1))) (fun b _ A Z=>A (.inr Z)) (fun b _ A Z=>A (.inl Z)))
          have r3:=aw.out.cell (i:=3) rfl
          have fR:=aw.out.frozen 3
          have r1:=aw.out.cell (i:=1) rfl
          have v1:=an.out.cell (i:=1) rfl
          have v3:=an.out.cell (i:=3) rfl
          have jf:nx≤200000:=ec.out
          have iO:ax+64≤aX.b.length∧aX.b.length≤90000:=⟨by omega,by omega⟩
          go_upto_region 40 with(first
           |(go_at_call 83;(refine(aAW (ax+56) _ (by omega) _ _ ek.out (by omega) (by omega)).mono ?_);rintro e G ⟨rfl,dK,df⟩;have E:=yH dK;have aO:=yH df;clear dK df)
           |fail)
          have au:=yH (show Blk G t [.string X,.int .u64 (ax:Int),.int .i64 (sx:Int),.int .i64 ((nx:Int)+1),.slice Av nv cv] 173 from(aO.out.kept.block t an.out.lt bj.out).trans an.out)
          have b3:=yH (aAX ba.out aO.out)
          have aP:=yH (dF.out.trans aO.out)
          have ad:x<Y.dl.length:=by
           have e:=congrArg List.length E.out.dm
           rw[List.length_map]at e
           have e:Y.dl.length=aX.datas.length:=e
           rw[e,dU.out]
           exact jd.out
          obtain⟨H,aa,iB,_,_,_,_,_⟩:=aBp (At.drew E.out).dr x ad
          obtain⟨bl,aD⟩: ∃y,Y.nd=y:=⟨_,rfl⟩
          have s0:G.drew.cell? ⟨g,144,none⟩=some (.slice (some ⟨H,0,none⟩) bl Y.cd):=by rw[←aa,←aD];exact At.cd (At.drew E.out)
          have jj:x<bl:=by rw[←aD,←aAy E.out.dr];exact ad
          clear aD
          obtain⟨js,ae,a8⟩:=aEf (R.out.path aP.out).own j (by rw[aV.out];exact bG)
          injection ae with ae
          injection ae with ae
          subst ae
          rw[ho.out]at a8
          have s1:G.drew.cell? ⟨bw,j,none⟩=some (.int .i64 (x:Int)):=a8
          have s2:G.drew.cell? ⟨t,0,none⟩=some (.string X):=au.out.cell (i:=0) rfl
          have s3:G.drew.cell? ⟨t,1,none⟩=some (.int .u64 (ax:Int)):=au.out.cell (i:=1) rfl
          have s4:G.drew.cell? ⟨t,2,none⟩=some (.int .i64 (sx:Int)):=au.out.cell (i:=2) rfl
          have s5:G.drew.cell? ⟨t,3,none⟩=some (.int .i64 ((nx:Int)+1)):=au.out.cell (i:=3) rfl
          have s6:G.drew.cell? ⟨t,4,none⟩=some (.slice Av nv cv):=au.out.cell (i:=4) rfl
          have cj:=yH (aGw (aa▸(At.drew E.out).dr) x (by rw[aAy E.out.dr]at ad;exact ad))
          have dV:knC ⟨tx,ax,sx,nx+1,aY⟩ (.slice Av nv cv)=[.string X,.int .u64 (ax:Int),.int .i64 (sx:Int),.int .i64 ((nx:Int)+1),.slice Av nv cv]:=by unfold knC;rw[hO.out];rfl
          have bi:=At.setD (At.drew E.out) x ad H aa ⟨tx,ax,sx,nx+1,aY⟩ (.slice Av nv cv) (show Arr G.drew (Pl.away Y B g) _ aY from b3.out)
          rw[dV]at bi
          have dR:=yH bi.1
          have bz:=yH (aP.out.drew.trans bi.2)
          have bN:Y.foot g H:= .inr (.inr (.inl (by rw[aa];rfl)))
          have aG:=yH (show(fun W:World=>W.cell? ⟨g,144,none⟩=some (.slice (some ⟨H,0,none⟩) bl Y.cd)∧W.cell? ⟨bw,j,none⟩=some (.int .i64 (x:Int))∧W.cell? ⟨t,0,none⟩=some (.string X)∧W.cell? ⟨t,1,none⟩=some (.int .u64 (ax:Int))∧W.cell? ⟨t,2,none⟩=some (.int .i64 (sx:Int))∧W.cell? ⟨t,3,none⟩=some (.int .i64 ((nx:Int)+1))∧W.cell? ⟨t,4,none⟩=some (.slice Av nv cv)) (G.drew.setCells H (x*5) [.string X,.int .u64 (ax:Int),.int .i64 (sx:Int),.int .i64 ((nx:Int)+1),.slice Av nv cv])from by
           have al: ∀k',k'<G.heap.size→k'≠H→ ∀o,(G.drew.setCells H (x*5) [.string X,.int .u64 (ax:Int),.int .i64 (sx:Int),.int .i64 ((nx:Int)+1),.slice Av nv cv]).cell? ⟨k',o,none⟩=G.drew.cell? ⟨k',o,none⟩:=fun k' A Z o=>World.cell?_setCells_out H _ _ _ _ (fun h3=>absurd h3 Z)
           have aK:t≠H:=fun e=>bj.out (e▸bN)
           have gM:g≠H:=fun e=>(E.out.dg H (by rw[aa];rfl)).1 e.symm
           have gN:bw≠H:=fun e=>(R.out.path aP.out).off bw rfl (e▸bN)
           have aU:=au.out.lt
           have gi:=E.out.st.st.lt
           have bP:=aAH a8
           exact⟨(al g gi gM _).trans s0,(al bw bP gN _).trans s1,(al t aU aK _).trans s2,(al t aU aK _).trans s3,(al t aU aK _).trans s4,(al t aU aK _).trans s5,(al t aU aK _).trans s6⟩)
          clear bi a8 r1 r3 fR v1 v3
          refine wp_region_noPanic ?_
          refine wp_region_held_drew (S:=fun W:World=>W.cell? ⟨g,144,none⟩=some (.slice (some ⟨H,0,none⟩) bl Y.cd)∧W.cell? ⟨bw,j,none⟩=some (.int .i64 (x:Int))∧W.cell? ⟨t,0,none⟩=some (.string X)∧W.cell? ⟨t,1,none⟩=some (.int .u64 (ax:Int))∧W.cell? ⟨t,2,none⟩=some (.int .i64 (sx:Int))∧W.cell? ⟨t,3,none⟩=some (.int .i64 ((nx:Int)+1))∧W.cell? ⟨t,4,none⟩=some (.slice Av nv cv)) (by kernel_rfl) (by exact⟨s0,s1,s2,s3,s4,s5,s6⟩) (fun hHeld=>?_)
          refine tq 0 264 rfl (fun W hSw=>by go_simp;try (with_reducible rfl)) ?_
          try simp only[Act.put,sA,sZ,sS]
          refine tq 1 265 rfl (fun W hSw=>by go_simp;try (with_reducible rfl)) ?_
          try simp only[Act.put,sA,sZ,sS]
          refine tq 2 266 rfl (fun W hSw=>by go_simp;try (with_reducible rfl)) ?_
          try simp only[Act.put,sA,sZ,sS]
          refine tq 3 267 rfl (fun W hSw=>by have bC:=hSw.1;go_simp;try (with_reducible rfl)) ?_
          try simp only[Act.put,sA,sZ,sS]
          refine tq 4 268 rfl (fun W hSw=>by go_simp;try (with_reducible rfl)) ?_
          try simp only[Act.put,sA,sZ,sS]
          refine tq 5 269 rfl (fun W hSw=>by go_simp;try (with_reducible rfl)) ?_
          try simp only[Act.put,sA,sZ,sS]
          refine tq 6 270 rfl (fun W hSw=>by go_simp;try (with_reducible rfl)) ?_
          try simp only[Act.put,sA,sZ,sS]
          refine tq 7 271 rfl (fun W hSw=>by have bC:=hSw.2.1;go_simp;try (with_reducible rfl)) ?_
          try simp only[Act.put,sA,sZ,sS]
          refine tq 8 272 rfl (fun W hSw=>by have bC:=hSw;go_simp;try (with_reducible rfl)) ?_
          try simp only[Act.put,sA,sZ,sS]
          refine tq 9 273 rfl (fun W hSw=>by go_simp;try (with_reducible rfl)) ?_
          try simp only[Act.put,sA,sZ,sS]
          refine rd 10 rfl (fun K d=>?_)
          refine aB9 (o:=⟨none,_,_,_,_,_⟩) rfl 173 (.tmp 273) (.tmp 272) rfl H (x*5) #[.string X,.int .u64 (ax:Int),.int .i64 (sx:Int),.int .i64 ((nx:Int)+1),.slice Av nv cv] rfl rfl cj.out knI (by simp[Value.oneCell']) ?_
          refine d.out _ _ (by exact aG.out) (fun hHeld=>?_)
          clear d K
          try simp only[Act.put,sA,sZ,sS]
          refine wpAnyH_done (by kernel_rfl) ?_ _
          refine NoPanic.normal ?_
          try go_wp2_with fail
          go_roundw
          case measure=>simp[intOf];omega
          case rel=>
           refine⟨j+1,{Y with dl:=Y.dl.set x (⟨tx,ax,sx,nx+1,aY⟩,.slice Av nv cv)},by omega,by go_num,yH ?_,yH (ac.out.trans bz.out),yH ?_⟩
           ·rw[cn.out,aC3,fK.out,iW.out]
            exact dR.out
           ·exact R.out.path bz.out
         ·have jo:((nx:Int)==0)=false:=by simp;omega
          have hh:=fa
          rw[if_neg (by omega)]at hh
          obtain⟨dN,bU⟩:=Prod.mk.inj hh
          have gH:=yH dN
          have gj:=yH bU
          have fv:=yH fun(z:Int) (hz:z=((nx-1:Nat):Int))=>show Calls Tryz.prog 82 #[.pointer (some ⟨g,0,none⟩),.slice Av nv cv,.int .i64 z,.int .u64 ((ax+48:Nat):Int),.int .u64 (n.b.length:Int)] wk (Linked B g Y (Mk.link J rx (nx-1) (ax+48) n.b.length) wk)from by
           subst hz
           exact link_any Av nv cv rx (nx-1) (ax+48) n.b.length wk cM.out (by omega) (show 0≤J.h.N 7∧J.h.N 7≤1000000 by have h:=u1.inv.n7;have h:0≤J.h.N 7∧J.h.N 7≤(J.b.length:Int):=h;omega) (show 0≤J.h.N 18∧J.h.N 18≤1000000 by have h:=u1.inv.n18;have h:0≤J.h.N 18∧J.h.N 18≤(J.b.length:Int):=h;omega) d5.out e4 (by omega) (by omega) (by omega) (by omega)
          unfold Linked at fv
          clear hh fa dN bU
          go_upto_region 38 with(first
           |(go_at_call 82;(refine(fv.out _ (by omega)).mono ?_);rintro e wl ⟨_,q8,rfl,⟨A7,n7,c7,rfl,hv,hY⟩,hJ,eV⟩;have iG:=yH (show Arr wl (Pl.away q8 B g) (.slice A7 n7 c7) aY from gj.out▸⟨A7,n7,c7,rfl,hv,hY⟩);have jk:=yH (show At wl B g q8 aX from gH.out▸hJ);have jw:=yH eV;have bj:=yH (show ¬q8.foot g t from fun h=>(eV.foot t h).elim (fun h=>dq.out t h rfl) (fun h=>absurd RK.out.lt (by omega)));have dJ:=yH (show Blk wl t [.string X,.int .u64 (ax:Int),.int .i64 (sx:Int),.int .i64 (nx:Int),.slice Av nv cv] 173 from(eV.kept.block t RK.out.lt (fun h=>dq.out t h rfl)).trans RK.out);have l4:=dJ.out.cell (i:=4) rfl;have jI:=dJ.out.frozen 4;clear hv hY hJ eV)
           |fail)
          have aw:=yH (show Blk (wl.setCell ⟨t,4,none⟩ (.slice A7 n7 c7)) t [.string X,.int .u64 (ax:Int),.int .i64 (sx:Int),.int .i64 (nx:Int),.slice A7 n7 c7] 173 from dJ.out.set_ 4 (.slice A7 n7 c7))
          have c0:=yH (At.setK jk.out dJ.out bj.out 4 (.slice A7 n7 c7))
          have eh:=yH (Path.side (Path.trans (Path.of_below (g:=g) (p:=Y) bk.out) jw.out) (KeptF.set1 wl t 4 (.slice A7 n7 c7)) (fun k' A=>by rw[show k'=t from A,gS.out];exact yR _))
          have bZ:=yH ((aCJ iG.out dJ.out).kept (KeptF.set1 wl t 4 (.slice A7 n7 c7)) (fun b _ A Z=>A (.inr Z)) (fun b _ A Z=>A (.inl Z)))
          have dU:=yH (show aX.datas.length=J.datas.length from congrArg List.length h5)
          generalize wl.setCell ⟨t,4,none⟩ (.slice A7 n7 c7)=bJ at*
          clear k3 jc k4 z4 l4 jI
          have an:=yH (aw.out.set_ 3 (.int .i64 ((nx:Int)+1)))
          have ek:=yH (At.setK c0.out aw.out (bj.out) 3 (.int .i64 ((nx:Int)+1)))
          have dF:=yH (Path.side eh.out (KeptF.set1 bJ t 3 (.int .i64 ((nx:Int)+1))) (fun k' A=>by rw[show k'=t from A,gS.out];exact yR _))
          have ba:=yH ((aCJ bZ.out aw.out).kept (KeptF.set1 bJ t 3 (.int .i64 ((nx:Int)+1))) (fun b _ A Z=>A (.inr Z)) (fun b _ A Z=>A (.inl Z)))
          have r3:=aw.out.cell (i:=3) rfl
          have fR:=aw.out.frozen 3
          have r1:=aw.out.cell (i:=1) rfl
          have v1:=an.out.cell (i:=1) rfl
          have v3:=an.out.cell (i:=3) rfl
          have jf:nx≤200000:=ec.out
          have iO:ax+64≤aX.b.length∧aX.b.length≤90000:=⟨by omega,by omega⟩
          go_upto_region 40 with(first
           |(go_at_call 83;(refine(aAW (ax+56) _ (by omega) _ _ ek.out (by omega) (by omega)).mono ?_);rintro e G ⟨rfl,dK,df⟩;have E:=yH dK;have aO:=yH df;clear dK df)
           |fail)
          have au:=yH (show Blk G t [.string X,.int .u64 (ax:Int),.int .i64 (sx:Int),.int .i64 ((nx:Int)+1),.slice A7 n7 c7] 173 from(aO.out.kept.block t an.out.lt bj.out).trans an.out)
          have b3:=yH (aAX ba.out aO.out)
          have aP:=yH (dF.out.trans aO.out)
          have ad:x<q8.dl.length:=by
           have e:=congrArg List.length E.out.dm
           rw[List.length_map]at e
           have e:q8.dl.length=aX.datas.length:=e
           rw[e,dU.out]
           exact jd.out
          obtain⟨H,aa,iB,_,_,_,_,_⟩:=aBp (At.drew E.out).dr x ad
          obtain⟨bl,aD⟩: ∃y,q8.nd=y:=⟨_,rfl⟩
          have s0:G.drew.cell? ⟨g,144,none⟩=some (.slice (some ⟨H,0,none⟩) bl q8.cd):=by rw[←aa,←aD];exact At.cd (At.drew E.out)
          have jj:x<bl:=by rw[←aD,←aAy E.out.dr];exact ad
          clear aD
          obtain⟨js,ae,a8⟩:=aEf (R.out.path aP.out).own j (by rw[aV.out];exact bG)
          injection ae with ae
          injection ae with ae
          subst ae
          rw[ho.out]at a8
          have s1:G.drew.cell? ⟨bw,j,none⟩=some (.int .i64 (x:Int)):=a8
          have s2:G.drew.cell? ⟨t,0,none⟩=some (.string X):=au.out.cell (i:=0) rfl
          have s3:G.drew.cell? ⟨t,1,none⟩=some (.int .u64 (ax:Int)):=au.out.cell (i:=1) rfl
          have s4:G.drew.cell? ⟨t,2,none⟩=some (.int .i64 (sx:Int)):=au.out.cell (i:=2) rfl
          have s5:G.drew.cell? ⟨t,3,none⟩=some (.int .i64 ((nx:Int)+1)):=au.out.cell (i:=3) rfl
          have s6:G.drew.cell? ⟨t,4,none⟩=some (.slice A7 n7 c7):=au.out.cell (i:=4) rfl
          have cj:=yH (aGw (aa▸(At.drew E.out).dr) x (by rw[aAy E.out.dr]at ad;exact ad))
          have dV:knC ⟨tx,ax,sx,nx+1,aY⟩ (.slice A7 n7 c7)=[.string X,.int .u64 (ax:Int),.int .i64 (sx:Int),.int .i64 ((nx:Int)+1),.slice A7 n7 c7]:=by unfold knC;rw[hO.out];rfl
          have bi:=At.setD (At.drew E.out) x ad H aa ⟨tx,ax,sx,nx+1,aY⟩ (.slice A7 n7 c7) (show Arr G.drew (Pl.away q8 B g) _ aY from b3.out)
          rw[dV]at bi
          have dR:=yH bi.1
          have bz:=yH (aP.out.drew.trans bi.2)
          have bN:q8.foot g H:= .inr (.inr (.inl (by rw[aa];rfl)))
          have aG:=yH (show(fun W:World=>W.cell? ⟨g,144,none⟩=some (.slice (some ⟨H,0,none⟩) bl q8.cd)∧W.cell? ⟨bw,j,none⟩=some (.int .i64 (x:Int))∧W.cell? ⟨t,0,none⟩=some (.string X)∧W.cell? ⟨t,1,none⟩=some (.int .u64 (ax:Int))∧W.cell? ⟨t,2,none⟩=some (.int .i64 (sx:Int))∧W.cell? ⟨t,3,none⟩=some (.int .i64 ((nx:Int)+1))∧W.cell? ⟨t,4,none⟩=some (.slice A7 n7 c7)) (G.drew.setCells H (x*5) [.string X,.int .u64 (ax:Int),.int .i64 (sx:Int),.int .i64 ((nx:Int)+1),.slice A7 n7 c7])from by
           have al: ∀k',k'<G.heap.size→k'≠H→ ∀o,(G.drew.setCells H (x*5) [.string X,.int .u64 (ax:Int),.int .i64 (sx:Int),.int .i64 ((nx:Int)+1),.slice A7 n7 c7]).cell? ⟨k',o,none⟩=G.drew.cell? ⟨k',o,none⟩:=fun k' A Z o=>World.cell?_setCells_out H _ _ _ _ (fun h3=>absurd h3 Z)
           have aK:t≠H:=fun e=>bj.out (e▸bN)
           have gM:g≠H:=fun e=>(E.out.dg H (by rw[aa];rfl)).1 e.symm
           have gN:bw≠H:=fun e=>(R.out.path aP.out).off bw rfl (e▸bN)
           have aU:=au.out.lt
           have gi:=E.out.st.st.lt
           have bP:=aAH a8
           exact⟨(al g gi gM _).trans s0,(al bw bP gN _).trans s1,(al t aU aK _).trans s2,(al t aU aK _).trans s3,(al t aU aK _).trans s4,(al t aU aK _).trans s5,(al t aU aK _).trans s6⟩)
          clear bi a8 r1 r3 fR v1 v3
          refine wp_region_noPanic ?_
          refine wp_region_held_drew (S:=fun W:World=>W.cell? ⟨g,144,none⟩=some (.slice (some ⟨H,0,none⟩) bl q8.cd)∧W.cell? ⟨bw,j,none⟩=some (.int .i64 (x:Int))∧W.cell? ⟨t,0,none⟩=some (.string X)∧W.cell? ⟨t,1,none⟩=some (.int .u64 (ax:Int))∧W.cell? ⟨t,2,none⟩=some (.int .i64 (sx:Int))∧W.cell? ⟨t,3,none⟩=some (.int .i64 ((nx:Int)+1))∧W.cell? ⟨t,4,none⟩=some (.slice A7 n7 c7)) (by kernel_rfl) (by exact⟨s0,s1,s2,s3,s4,s5,s6⟩) (fun hHeld=>?_)
          refine tq 0 264 rfl (fun W hSw=>by go_simp;try (with_reducible rfl)) ?_
          try simp only[Act.put,sA,sZ,sS]
          refine tq 1 265 rfl (fun W hSw=>by go_simp;try (with_reducible rfl)) ?_
          try simp only[Act.put,sA,sZ,sS]
          refine tq 2 266 rfl (fun W hSw=>by go_simp;try (with_reducible rfl)) ?_
          try simp only[Act.put,sA,sZ,sS]
          refine tq 3 267 rfl (fun W hSw=>by have bC:=hSw.1;go_simp;try (with_reducible rfl)) ?_
          try simp only[Act.put,sA,sZ,sS]
          refine tq 4 268 rfl (fun W hSw=>by go_simp;try (with_reducible rfl)) ?_
          try simp only[Act.put,sA,sZ,sS]
          refine tq 5 269 rfl (fun W hSw=>by go_simp;try (with_reducible rfl)) ?_
          try simp only[Act.put,sA,sZ,sS]
          refine tq 6 270 rfl (fun W hSw=>by go_simp;try (with_reducible rfl)) ?_
          try simp only[Act.put,sA,sZ,sS]
          refine tq 7 271 rfl (fun W hSw=>by have bC:=hSw.2.1;go_simp;try (with_reducible rfl)) ?_
          try simp only[Act.put,sA,sZ,sS]
          refine tq 8 272 rfl (fun W hSw=>by have bC:=hSw;go_simp;try (with_reducible rfl)) ?_
          try simp only[Act.put,sA,sZ,sS]
          refine tq 9 273 rfl (fun W hSw=>by go_simp;try (with_reducible rfl)) ?_
          try simp only[Act.put,sA,sZ,sS]
          refine rd 10 rfl (fun K d=>?_)
          refine aB9 (o:=⟨none,_,_,_,_,_⟩) rfl 173 (.tmp 273) (.tmp 272) rfl H (x*5) #[.string X,.int .u64 (ax:Int),.int .i64 (sx:Int),.int .i64 ((nx:Int)+1),.slice A7 n7 c7] rfl rfl cj.out knI (by simp[Value.oneCell']) ?_
          refine d.out _ _ (by exact aG.out) (fun hHeld=>?_)
          clear d K
          try simp only[Act.put,sA,sZ,sS]
          refine wpAnyH_done (by kernel_rfl) ?_ _
          refine NoPanic.normal ?_
          try go_wp2_with fail
          go_roundw
          case measure=>simp[intOf];omega
          case rel=>
           refine⟨j+1,{q8 with dl:=q8.dl.set x (⟨tx,ax,sx,nx+1,aY⟩,.slice A7 n7 c7)},by omega,by go_num,yH ?_,yH (ac.out.trans bz.out),yH ?_⟩
           ·rw[cn.out,aC3,fK.out,iW.out]
            exact dR.out
           ·exact R.out.path bz.out
        ·obtain rfl:j=i:=by omega
         obtain⟨u1,u2,u3,u4,u5,u6,u7⟩:=fT.out j (by rw[aV.out];exact yR _)
         have dh:who.take j=who:=List.take_of_length_le (by rw[aV.out];exact yR _)
         have gw:=aS.out
         rw[dh]at u3 u5 u7 gw
         have fq:m.h.N 8=(n8:Int):=ds.out.n8.symm.trans bH.out
         have dH:(m.h.N 8).toNat=n8:=by rw[fq];exact Int.toNat_natCast n8
         have f9:=yH (show Mk.grown m L real mono K=Mk.markAll n.b.length mL who from by
          unfold Mk.grown
          rw[gn.out]
          dsimp only
          rw[aG.out,dD.out,←g9.out,dH,io.out])
         have iK:=yH dH
         clear dH fq dh u1 u2 u4 u6
         generalize Mk.markAll n.b.length mL who=mf at*
         have eq:=yH gw
         have iU:mf.b.length≤80000:=by omega
         have fI:mf.C=m.C:=u5.trans (bc.out.trans ds.out.C)
         have d6:=yH (show mf.h.N 8=(n8:Int)from u7.trans (hI.out.trans bH.out))
         have ea:wr.cell? ⟨g,143,none⟩=some (.slice (some ⟨Y.bb,0,none⟩) mf.b.length Y.cb):=At.cb eq.out
         have iF:wr.cell? ⟨g,50,none⟩=some (.int .i64 (m.C.most:Int)):=fI▸eq.out.st.st.cell (Mk.get_most _ _)
         have gU:=yH ((Path.of_below (g:=g) (p:=p) aT.out).below ar.out)
         have cE:(Tryz.prog.info? 37).map (·.size)=some (idE K).toArray.size:=by kernel_rfl
         clear gw u3 u5 u7 fI
         have fN:=yH (show listL aE=L from dC.out)
         obtain⟨gC,ex⟩: ∃y,mf.b.length=y:=⟨_,rfl⟩
         have fs:=yH ex
         rw[ex]at ea iU
         clear ex
         try clear cw
         try clear eO
         try clear ce
         try clear fm
         try clear ci
         try clear ct
         try clear dz
         try clear ca
         try clear av
         try clear bX
         try clear dP
         try clear aV
         try clear cX
         try clear ee
         try clear eF
         try clear eQ
         try clear HNd
         try clear a2
         try clear bV
         try clear cW
         try clear aq
         try clear eW
         try clear ap
         try clear cs
         try clear cg
         try clear a9
         try clear gf
         try clear fZ
         try clear fg
         try clear cL
         try clear cA
         try clear eX
         try clear ge
         try clear cZ
         try clear ed
         try clear dy
         try clear eR
         try clear aW
         try clear cU
         try clear HA5
         try clear eP
         try clear fY
         try clear dv
         try clear dM
         try clear cQ
         try clear he
         try clear dQ
         try clear hZ
         try clear iT
         try clear cG
         try clear ah
         try clear gY
         try clear dd
         try clear gp
         try clear fd
         try clear cl
         try clear gk
         try clear fS
         try clear eU
         try clear gV
         try clear cy
         try clear a6
         try clear gG
         try clear gW
         try clear fe
         try clear fb
         try clear eY
         try clear fT
         try clear ck
         try clear cq
         try clear cQ
         try clear ha
         try clear R
         try clear hN
         try clear bc
         try clear hI
         try clear HHeld
         try clear hHeld
         try clear cz
         try clear i0
         try clear ic
         try clear g0
         try clear ei
         try clear e6
         try clear d7
         try clear bg
         try clear HI
         by_cases dj:m.C.most<gC
         ·have d1:decide ((m.C.most:Int)<(gC:Int))=true:=by simp;omega
          have eC:=yH (show Mk.acode m aE real mono K=15 from by
           unfold Mk.acode
           rw[br.out,if_neg (by simp),aG.out,if_neg HT.out,fN.out,f9.out,fs.out,if_pos dj])
          have fL:=yH (At.drew (At.offB cH.out ac.out.kept (fun k' hk'=>by have:=bM k' hk';have:=aT.out.size;omega)))
          have hU:(Mk.cells m {po.S with b:= .slice (some ⟨po.bb,0,none⟩) m.b.length po.cb}).toArray.all (·.oneCell')=true:=by
           obtain⟨Ao,no,co,jp,_,_⟩:=cH.out.ma
           exact aN9 _ _ rfl rfl rfl (by show po.M.oneCell'=true;rw[jp];rfl)
          have iN:=yH (show wr.drew.heap[g]? =some (.cells _ 157 (0,0))from(At.drew eq.out).st.st)
          have jF:(Mk.cells mf {Y.S with b:= .slice (some ⟨Y.bb,0,none⟩) mf.b.length Y.cb}).toArray.size=(Mk.cells m {po.S with b:= .slice (some ⟨po.bb,0,none⟩) m.b.length po.cb}).toArray.size:=by simp[Mk.len]
          go_upto_region 41 with fail
          go_region
          go_upto_region 43 with(first
           |((with_reducible apply aAb 288);refine wpList_load_row rfl 157 (.tmp 287) rfl w1.heap.size rfl 157 (Mk.cells m {po.S with b:= .slice (some ⟨po.bb,0,none⟩) m.b.length po.cb}).toArray (0,0) _ fL.out.st.st Tryz.underlying157 rfl (aBE _ _) ?_)
           |((with_reducible apply aAa (.tmp 289) (.tmp 288));refine wpList_store_row rfl 157 (.tmp 289) (.tmp 288) rfl g (Mk.cells m {po.S with b:= .slice (some ⟨po.bb,0,none⟩) m.b.length po.cb}).toArray rfl rfl 157 _ iN.out (aBE _ _) jF hU ?_)
           |fail)
          have iL:=yH (At.restore fL.out _ iN.out eq.out.gB (by have A:=bM g (.inl rfl);have Z:=aT.out.size;omega))
          have iA:=yH (show Path g p w po _ from⟨fun k' hk'=>by
           rcases hk' with A|A
           ·exact .inl (.inl A)
           ·right
            have Z:=(At.lt cH.out k' (.inr A)).1
            have h3:=aT.out.size
            omega,((gU.out.trans ac.out).kept.drew).trans (aDq wr.drew g (Mk.cells m {po.S with b:= .slice (some ⟨po.bb,0,none⟩) m.b.length po.cb}).toArray) (fun k' _ A=> .inl A)⟩)
          clear d1 ea iF
          go_wp2
          go_ret2
          exact aCj eC.out (by decide) ⟨po,iL.out,iA.out⟩
         ·have d1:decide ((m.C.most:Int)<(gC:Int))=false:=by simp;omega
          have eC:=yH (show Mk.acode m aE real mono K=0 from by
           unfold Mk.acode
           rw[br.out,if_neg (by simp),aG.out,if_neg HT.out,fN.out,f9.out,fs.out,if_neg dj])
          have fC:=yH (show Mk.entered m (listL aE) real mono K=Mk.told mf n8 sq real mono K n.b.length from by
           unfold Mk.entered
           rw[fN.out,f9.out,iK.out,aG.out,dD.out,gn.out])
          go_upto_region 41 with fail
          go_region
          have e9:=yH (At.drew eq.out)
          have jg:=yH ac.out.drew
          generalize wr.drew=eD at*
          clear d1 ea iF
          rcases Nat.eq_zero_or_pos n8 with hz|hz
          ·have hM:((n8:Int)==0)=true:=by simp[hz]
           have HZ:=yH hz
           clear hz
           have aN:=At.drew (At.flat e9.out)
           have iE:=At.cN aN 10 129 (by decide) rfl
           have iY:=At.fz aN 129
           have ag:=At.drew (At.setNh _ (At.flat e9.out) 10 129 (by decide) rfl sq)
           have hC:=At.cN ag 12 131 (by decide) rfl
           have ie:=At.fz ag 131
           obtain⟨dB,am⟩: ∃y,y=setN (setN mf.h 10 sq) 12 real:=⟨_,rfl⟩
           have bq:=yH (show At ((eD.setCell ⟨g,129,none⟩ (.int .u64 sq)).setCell ⟨g,131,none⟩ (.int .u64 real)).drew B g Y {mf with h:=dB}from by rw[am];exact At.drew (At.setNh _ (At.setNh _ (At.flat e9.out) 10 129 (by decide) rfl sq) 12 131 (by decide) rfl real))
           have gh:=yH am
           have bp:=yH (show dB.N 8=(n8:Int)from by rw[am];exact d6.out)
           clear am
           have ez:=yH (((jg.out.set 129 (.int .u64 sq)).set 131 (.int .u64 real)).drew)
           clear aN ag
           go_upto_region 45 with fail
           refine wp_region_noPanic ?_
           refine wp_region_held_drew (S:=fun _:World=>True) (by kernel_rfl) trivial (fun hHeld=>?_)
           refine tq 0 292 rfl (fun W hSw=>by go_simp;try (with_reducible rfl)) ?_
           try simp only[Act.put,sA,sZ,sS]
           refine tq 1 293 rfl (fun W hSw=>by go_simp;try (with_reducible rfl)) ?_
           try simp only[Act.put,sA,sZ,sS]
           refine tq 2 294 rfl (fun W hSw=>by go_simp;try (with_reducible rfl)) ?_
           try simp only[Act.put,sA,sZ,sS]
           refine tq 3 295 rfl (fun W hSw=>by go_simp;try (with_reducible rfl)) ?_
           try simp only[Act.put,sA,sZ,sS]
           refine tq 4 296 rfl (fun W hSw=>by go_simp;try (with_reducible rfl)) ?_
           try simp only[Act.put,sA,sZ,sS]
           refine tq 5 297 rfl (fun W hSw=>by go_simp;try (with_reducible rfl)) ?_
           try simp only[Act.put,sA,sZ,sS]
           refine tq 6 298 rfl (fun W hSw=>by go_simp;try (with_reducible rfl)) ?_
           try simp only[Act.put,sA,sZ,sS]
           refine tq 7 299 rfl (fun W hSw=>by go_simp;try (with_reducible rfl)) ?_
           try simp only[Act.put,sA,sZ,sS]
           refine tq 9 300 rfl (fun W hSw=>by go_simp;try (with_reducible rfl)) ?_
           try simp only[Act.put,sA,sZ,sS]
           refine tq 10 301 rfl (fun W hSw=>by go_simp;try (with_reducible rfl)) ?_
           try simp only[Act.put,sA,sZ,sS]
           refine tq 11 302 rfl (fun W hSw=>by go_simp;try (with_reducible rfl)) ?_
           try simp only[Act.put,sA,sZ,sS]
           refine rd 8 rfl (fun K d=>?_)
           go_simp
           skip
           try go_wp2_with fail
           refine d.out _ _ (by trivial) (fun hHeld=>?_)
           clear d K
           try simp only[Act.put,sA,sZ,sS]
           refine tq 12 303 rfl (fun W hSw=>by go_simp;try (with_reducible rfl)) ?_
           try simp only[Act.put,sA,sZ,sS]
           refine rd 13 rfl (fun K d=>?_)
           go_simp
           skip
           try go_wp2_with fail
           refine d.out _ _ (by trivial) (fun hHeld=>?_)
           clear d K
           try simp only[Act.put,sA,sZ,sS]
           refine wpAnyH_done (by kernel_rfl) ?_ _
           refine NoPanic.normal ?_
           try go_wp2_with fail
           generalize ((eD.setCell ⟨g,129,none⟩ (.int .u64 sq)).setCell ⟨g,131,none⟩ (.int .u64 real)).drew=en at*
           clear iE iY hC ie hM
           have bv:en.cell? ⟨g,127,none⟩=some (.int .u64 (n8:Int)):=(At.cN bq.out 8 127 (by decide) rfl).trans (congrArg (fun x=>some (Value.int .u64 x)) bp.out)
           have es:=At.fz bq.out 127
           have gX:IntKind.u64.wrap ((n8:Int)+1)=(n8:Int)+1:=by rw[IntKind.wrap_u64];omega
           go_upto_region 46 with fail
           go_region
           have a5:=yH (At.drew (At.setNh _ bq.out 8 127 (by decide) rfl ((n8:Int)+1)))
           have fV:=yH ((ez.out.set 127 (.int .u64 ((n8:Int)+1))).drew)
           generalize (en.setCell ⟨g,127,none⟩ (.int .u64 ((n8:Int)+1))).drew=gL at*
           clear bv es gX
           have aN:=At.drew a5.out
           have dY:=At.cN aN 9 128 (by decide) rfl
           have dL:=At.fz aN 128
           have ag:=At.drew (At.setNh _ a5.out 9 128 (by decide) rfl sq)
           have du:=At.cN ag 13 132 (by decide) rfl
           have dx:=At.fz ag 132
           have aL:=At.drew (At.setNh _ (At.setNh _ a5.out 9 128 (by decide) rfl sq) 13 132 (by decide) rfl real)
           have dZ:=At.cN aL 14 133 (by decide) rfl
           have dp:=At.fz aL 133
           have dc:=yH (At.drew (At.setNh _ (At.setNh _ (At.setNh _ a5.out 9 128 (by decide) rfl sq) 13 132 (by decide) rfl real) 14 133 (by decide) rfl mono))
           have el:=yH ((((fV.out.set 128 (.int .u64 sq)).set 132 (.int .u64 real)).set 133 (.int .u64 mono)).drew)
           clear aN ag aL
           go_upto_region 47 with fail
           refine wp_region_noPanic ?_
           refine wp_region_held_drew (S:=fun _:World=>True) (by kernel_rfl) trivial (fun hHeld=>?_)
           refine tq 0 315 rfl (fun W hSw=>by go_simp;try (with_reducible rfl)) ?_
           try simp only[Act.put,sA,sZ,sS]
           refine tq 1 316 rfl (fun W hSw=>by go_simp;try (with_reducible rfl)) ?_
           try simp only[Act.put,sA,sZ,sS]
           refine tq 2 317 rfl (fun W hSw=>by go_simp;try (with_reducible rfl)) ?_
           try simp only[Act.put,sA,sZ,sS]
           refine tq 3 318 rfl (fun W hSw=>by go_simp;try (with_reducible rfl)) ?_
           try simp only[Act.put,sA,sZ,sS]
           refine tq 4 319 rfl (fun W hSw=>by go_simp;try (with_reducible rfl)) ?_
           try simp only[Act.put,sA,sZ,sS]
           refine tq 5 320 rfl (fun W hSw=>by go_simp;try (with_reducible rfl)) ?_
           try simp only[Act.put,sA,sZ,sS]
           refine tq 6 321 rfl (fun W hSw=>by go_simp;try (with_reducible rfl)) ?_
           try simp only[Act.put,sA,sZ,sS]
           refine tq 7 322 rfl (fun W hSw=>by go_simp;try (with_reducible rfl)) ?_
           try simp only[Act.put,sA,sZ,sS]
           refine tq 8 323 rfl (fun W hSw=>by go_simp;try (with_reducible rfl)) ?_
           try simp only[Act.put,sA,sZ,sS]
           refine tq 9 324 rfl (fun W hSw=>by go_simp;try (with_reducible rfl)) ?_
           try simp only[Act.put,sA,sZ,sS]
           refine tq 11 325 rfl (fun W hSw=>by go_simp;try (with_reducible rfl)) ?_
           try simp only[Act.put,sA,sZ,sS]
           refine tq 12 326 rfl (fun W hSw=>by go_simp;try (with_reducible rfl)) ?_
           try simp only[Act.put,sA,sZ,sS]
           refine tq 13 327 rfl (fun W hSw=>by go_simp;try (with_reducible rfl)) ?_
           try simp only[Act.put,sA,sZ,sS]
           refine tq 16 329 rfl (fun W hSw=>by go_simp;try (with_reducible rfl)) ?_
           try simp only[Act.put,sA,sZ,sS]
           refine tq 17 330 rfl (fun W hSw=>by go_simp;try (with_reducible rfl)) ?_
           try simp only[Act.put,sA,sZ,sS]
           refine tq 18 331 rfl (fun W hSw=>by go_simp;try (with_reducible rfl)) ?_
           try simp only[Act.put,sA,sZ,sS]
           refine rd 10 rfl (fun K d=>?_)
           go_simp
           skip
           try go_wp2_with fail
           refine d.out _ _ (by trivial) (fun hHeld=>?_)
           clear d K
           try simp only[Act.put,sA,sZ,sS]
           refine tq 14 328 rfl (fun W hSw=>by go_simp;try (with_reducible rfl)) ?_
           try simp only[Act.put,sA,sZ,sS]
           refine rd 15 rfl (fun K d=>?_)
           go_simp
           skip
           try go_wp2_with fail
           refine d.out _ _ (by trivial) (fun hHeld=>?_)
           clear d K
           try simp only[Act.put,sA,sZ,sS]
           refine tq 19 332 rfl (fun W hSw=>by go_simp;try (with_reducible rfl)) ?_
           try simp only[Act.put,sA,sZ,sS]
           refine rd 20 rfl (fun K d=>?_)
           go_simp
           skip
           try go_wp2_with fail
           refine d.out _ _ (by trivial) (fun hHeld=>?_)
           clear d K
           try simp only[Act.put,sA,sZ,sS]
           refine wpAnyH_done (by kernel_rfl) ?_ _
           refine NoPanic.normal ?_
           go_upto_region 48 with fail
           generalize (((gL.setCell ⟨g,128,none⟩ (.int .u64 sq)).setCell ⟨g,132,none⟩ (.int .u64 real)).setCell ⟨g,133,none⟩ (.int .u64 mono)).drew=aR at*
           clear dY dL du dx dZ dp
           have fW:=yH (show Blk aR w.heap.size (idE K) 37 from aDH (el.out.kept.block _ (yL R1.out.lt ar.out.size) (fun hf=>absurd (bM _ hf) (Nat.lt_irrefl _))) (aDH (ar.out.block _ R1.out.lt) (aKV R1.out)))
           have cj:=yH (show aR.there g 87 (idE K).toArray.size from aIC dc.out.st.st 87 16 (by decide))
           obtain⟨wq,bn⟩: ∃x,x=aR.setCells g 87 (idE K).toArray.toList:=⟨_,rfl⟩
           have gd:=yH bn
           have ch:=yH (show At wq B g Y _ from by rw[bn];exact At.setBooth _ dc.out K)
           have gc:=yH (show Path g p w2 Y wq from by rw[bn];exact Path.setCells (w1:=aR) (idE K) 87 aR el.out)
           clear bn
           have jb:=At.cte ch.out
           have ig:=At.fz ch.out 141
           go_upto_region 49 with(first
            |((with_reducible apply aAb 335);refine wpList_load_row rfl 37 (.tmp 9) rfl w.heap.size rfl 37 (idE K).toArray (0,0) _ fW.out Tryz.underlying37 rfl cE ?_)
            |((with_reducible apply aAa (.tmp 339) (.tmp 335));refine aBd rfl 37 (.tmp 339) (.tmp 335) rfl g 87 (idE K).toArray rfl rfl cj.out cE (aKW K) gd.out ?_)
            |fail)
           have gZ:=yH (At.setTeh _ ch.out (n.b.length:Int))
           have gI:=yH (gc.out.set 141 (.int .u64 (n.b.length:Int)))
           go_wp2
           go_ret2
           unfold Appended Mk.after
           rw[eC.out,if_pos rfl,if_pos rfl,aG.out,dD.out]
           refine⟨rfl,Y,?_,gU.out.trans gI.out⟩
           rw[fC.out]
           refine At.same gZ.out rfl ?_ rfl rfl rfl rfl rfl
           unfold Mk.told
           dsimp only
           rw[if_pos HZ.out,←gh.out,bp.out]
          ·skip
           have hM:((n8:Int)==0)=false:=by simp;omega
           have HZ:=yH (show ¬n8=0 by omega)
           clear hz
           obtain⟨dB,am⟩: ∃y,y=mf.h:=⟨_,rfl⟩
           have bq:=yH (show At eD B g Y {mf with h:=dB}from by rw[am];exact e9.out)
           have gh:=yH am
           have bp:=yH (show dB.N 8=(n8:Int)from by rw[am];exact d6.out)
           clear am
           have ez:=jg
           obtain⟨en,fn⟩: ∃y,y=eD:=⟨_,rfl⟩
           rw[←fn]at bq ez⊢
           clear fn
           have bv:en.cell? ⟨g,127,none⟩=some (.int .u64 (n8:Int)):=(At.cN bq.out 8 127 (by decide) rfl).trans (congrArg (fun x=>some (Value.int .u64 x)) bp.out)
           have es:=At.fz bq.out 127
           have gX:IntKind.u64.wrap ((n8:Int)+1)=(n8:Int)+1:=by rw[IntKind.wrap_u64];omega
           go_upto_region 46 with fail
           go_region
           have a5:=yH (At.drew (At.setNh _ bq.out 8 127 (by decide) rfl ((n8:Int)+1)))
           have fV:=yH ((ez.out.set 127 (.int .u64 ((n8:Int)+1))).drew)
           generalize (en.setCell ⟨g,127,none⟩ (.int .u64 ((n8:Int)+1))).drew=gL at*
           clear bv es gX
           have aN:=At.drew a5.out
           have dY:=At.cN aN 9 128 (by decide) rfl
           have dL:=At.fz aN 128
           have ag:=At.drew (At.setNh _ a5.out 9 128 (by decide) rfl sq)
           have du:=At.cN ag 13 132 (by decide) rfl
           have dx:=At.fz ag 132
           have aL:=At.drew (At.setNh _ (At.setNh _ a5.out 9 128 (by decide) rfl sq) 13 132 (by decide) rfl real)
           have dZ:=At.cN aL 14 133 (by decide) rfl
           have dp:=At.fz aL 133
           have dc:=yH (At.drew (At.setNh _ (At.setNh _ (At.setNh _ a5.out 9 128 (by decide) rfl sq) 13 132 (by decide) rfl real) 14 133 (by decide) rfl mono))
           have el:=yH ((((fV.out.set 128 (.int .u64 sq)).set 132 (.int .u64 real)).set 133 (.int .u64 mono)).drew)
           clear aN ag aL
           go_upto_region 47 with fail
           refine wp_region_noPanic ?_
           refine wp_region_held_drew (S:=fun _:World=>True) (by kernel_rfl) trivial (fun hHeld=>?_)
           refine tq 0 315 rfl (fun W hSw=>by go_simp;try (with_reducible rfl)) ?_
           try simp only[Act.put,sA,sZ,sS]
           refine tq 1 316 rfl (fun W hSw=>by go_simp;try (with_reducible rfl)) ?_
           try simp only[Act.put,sA,sZ,sS]
           refine tq 2 317 rfl (fun W hSw=>by go_simp;try (with_reducible rfl)) ?_
           try simp only[Act.put,sA,sZ,sS]
           refine tq 3 318 rfl (fun W hSw=>by go_simp;try (with_reducible rfl)) ?_
           try simp only[Act.put,sA,sZ,sS]
           refine tq 4 319 rfl (fun W hSw=>by go_simp;try (with_reducible rfl)) ?_
           try simp only[Act.put,sA,sZ,sS]
           refine tq 5 320 rfl (fun W hSw=>by go_simp;try (with_reducible rfl)) ?_
           try simp only[Act.put,sA,sZ,sS]
           refine tq 6 321 rfl (fun W hSw=>by go_simp;try (with_reducible rfl)) ?_
           try simp only[Act.put,sA,sZ,sS]
           refine tq 7 322 rfl (fun W hSw=>by go_simp;try (with_reducible rfl)) ?_
           try simp only[Act.put,sA,sZ,sS]
           refine tq 8 323 rfl (fun W hSw=>by go_simp;try (with_reducible rfl)) ?_
           try simp only[Act.put,sA,sZ,sS]
           refine tq 9 324 rfl (fun W hSw=>by go_simp;try (with_reducible rfl)) ?_
           try simp only[Act.put,sA,sZ,sS]
           refine tq 11 325 rfl (fun W hSw=>by go_simp;try (with_reducible rfl)) ?_
           try simp only[Act.put,sA,sZ,sS]
           refine tq 12 326 rfl (fun W hSw=>by go_simp;try (with_reducible rfl)) ?_
           try simp only[Act.put,sA,sZ,sS]
           refine tq 13 327 rfl (fun W hSw=>by go_simp;try (with_reducible rfl)) ?_
           try simp only[Act.put,sA,sZ,sS]
           refine tq 16 329 rfl (fun W hSw=>by go_simp;try (with_reducible rfl)) ?_
           try simp only[Act.put,sA,sZ,sS]
           refine tq 17 330 rfl (fun W hSw=>by go_simp;try (with_reducible rfl)) ?_
           try simp only[Act.put,sA,sZ,sS]
           refine tq 18 331 rfl (fun W hSw=>by go_simp;try (with_reducible rfl)) ?_
           try simp only[Act.put,sA,sZ,sS]
           refine rd 10 rfl (fun K d=>?_)
           go_simp
           skip
           try go_wp2_with fail
           refine d.out _ _ (by trivial) (fun hHeld=>?_)
           clear d K
           try simp only[Act.put,sA,sZ,sS]
           refine tq 14 328 rfl (fun W hSw=>by go_simp;try (with_reducible rfl)) ?_
           try simp only[Act.put,sA,sZ,sS]
           refine rd 15 rfl (fun K d=>?_)
           go_simp
           skip
           try go_wp2_with fail
           refine d.out _ _ (by trivial) (fun hHeld=>?_)
           clear d K
           try simp only[Act.put,sA,sZ,sS]
           refine tq 19 332 rfl (fun W hSw=>by go_simp;try (with_reducible rfl)) ?_
           try simp only[Act.put,sA,sZ,sS]
           refine rd 20 rfl (fun K d=>?_)
           go_simp
           skip
           try go_wp2_with fail
           refine d.out _ _ (by trivial) (fun hHeld=>?_)
           clear d K
           try simp only[Act.put,sA,sZ,sS]
           refine wpAnyH_done (by kernel_rfl) ?_ _
           refine NoPanic.normal ?_
           go_upto_region 48 with fail
           generalize (((gL.setCell ⟨g,128,none⟩ (.int .u64 sq)).setCell ⟨g,132,none⟩ (.int .u64 real)).setCell ⟨g,133,none⟩ (.int .u64 mono)).drew=aR at*
           clear dY dL du dx dZ dp
           have fW:=yH (show Blk aR w.heap.size (idE K) 37 from aDH (el.out.kept.block _ (yL R1.out.lt ar.out.size) (fun hf=>absurd (bM _ hf) (Nat.lt_irrefl _))) (aDH (ar.out.block _ R1.out.lt) (aKV R1.out)))
           have cj:=yH (show aR.there g 87 (idE K).toArray.size from aIC dc.out.st.st 87 16 (by decide))
           obtain⟨wq,bn⟩: ∃x,x=aR.setCells g 87 (idE K).toArray.toList:=⟨_,rfl⟩
           have gd:=yH bn
           have ch:=yH (show At wq B g Y _ from by rw[bn];exact At.setBooth _ dc.out K)
           have gc:=yH (show Path g p w2 Y wq from by rw[bn];exact Path.setCells (w1:=aR) (idE K) 87 aR el.out)
           clear bn
           have jb:=At.cte ch.out
           have ig:=At.fz ch.out 141
           go_upto_region 49 with(first
            |((with_reducible apply aAb 335);refine wpList_load_row rfl 37 (.tmp 9) rfl w.heap.size rfl 37 (idE K).toArray (0,0) _ fW.out Tryz.underlying37 rfl cE ?_)
            |((with_reducible apply aAa (.tmp 339) (.tmp 335));refine aBd rfl 37 (.tmp 339) (.tmp 335) rfl g 87 (idE K).toArray rfl rfl cj.out cE (aKW K) gd.out ?_)
            |fail)
           have gZ:=yH (At.setTeh _ ch.out (n.b.length:Int))
           have gI:=yH (gc.out.set 141 (.int .u64 (n.b.length:Int)))
           go_wp2
           go_ret2
           unfold Appended Mk.after
           rw[eC.out,if_pos rfl,if_pos rfl,aG.out,dD.out]
           refine⟨rfl,Y,?_,gU.out.trans gI.out⟩
           rw[fC.out]
           refine At.same gZ.out rfl ?_ rfl rfl rfl rfl rfl
           unfold Mk.told
           dsimp only
           rw[if_neg HZ.out,←gh.out,bp.out]
 ·have kk:(lx !=0)=true:=by simpa using cT
  have jY:(lx==0)=false:=by simpa using cT
  have HE:=yH (show Mk.acode m aE real mono K=lx by unfold Mk.acode;rw[if_pos (by rw[br.out];exact cT),br.out])
  have jJ:=yH cT
  clear cT
  go_wp2
  go_ret2
  exact aCj HE.out jJ.out ⟨p,bg.out,Path.of_below aT.out⟩
end Ni
end Go.Proofs.YtlelnfokffflnaaGreat
