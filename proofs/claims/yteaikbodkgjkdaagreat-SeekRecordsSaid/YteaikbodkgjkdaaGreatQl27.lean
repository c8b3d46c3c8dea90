/-
  Texts beneath.
-/
import Derived.Test.YteaikbodkgjkdaaGreatQl22
set_option linter.unusedVariables false
set_option linter.unusedSimpArgs false
set_option maxRecDepth 100000
set_option maxHeartbeats 40000000
open Go.ChangeShapes Go.WideShapes Go.ChangeAt Go.RowKit
namespace Go.Proofs.YteaikbodkgjkdaaGreat
namespace Ni
open Bytes8 Blk8 Own8 OwnM OwnA OwnE Rows2 Ob Od Ga Ma Kf Mb Mc Md Mf Mg Mh Fa Fb Fc Sg Dc Yc Yd Yk Gb Na Nb Nc Nd Nee Nf Ng Nh Nk Nl Nm No Ya Pr8 Ps8 Pl8 Pr2
theorem aGs: ∀(l:List PR),codeL l=0→ ∀q∈l,flawI q.1 q.2=0
 | [],_,q,hq=>by cases hq
 |p::r,h,q,hq=>by
  unfold codeL at h
  split at h
  ·next h0=>
   rcases List.mem_cons.1 hq with rfl|hq
   ·exact h0
   ·exact aGs r h q hq
  ·next h0=>exact absurd h h0
theorem aFA {a:List PR}(h:listE a=0):(listL a).length≤16∧ ∀q∈listL a,q∈a∧flawI q.1 q.2=0:=by
 have c:listL a=sortP (ded a):=if_pos h
 unfold listE at h
 split at h
 ·cases h
 ·split at h
  ·next hc=>
   split at h
   ·next h16=>
    rw[c,aBw]
    refine⟨h16,fun q hq=>?_⟩
    have b:=(aC0 a q).1 ((aBb _ _).1 hq)
    exact⟨b,aGs _ hc q b⟩
   ·cases h
  ·next hc=>exact absurd h hc
theorem aGt {w:World}{b:Array Oper}{rest:List Oper}{o:Oper}{a:Act}{Q:Exit→Act→World→Prop}(e:o.guard=none)(x:Operand)(j:o.op= .convert 9 26 x)(l:List Int)(u:AllB l)(n:Nat)(r:l.length=n)(g:Nat)(q:w.heap.size=g)(s:a.eval x= .string (T l))
 (h: ∀c w',Bytes w' (some ⟨g,0,none⟩) l→Grew w w'→g<w'.heap.size→wpList Tryz.prog b Q rest (a.put o.dst (.slice (some ⟨g,0,none⟩) n c)) w'):wpList Tryz.prog b Q (o::rest) a w:=
 wpList_plain e fun K hK=>by
  subst r
  subst q
  have d:=run_bytes_of_string w 9 26 5 (T l) Tryz.underlying9 Tryz.underlying26 Tryz.underlying5
  obtain⟨cf,t,i⟩:=aBL l u
  obtain⟨k,m,p⟩:=i w
  have f:w.heap.size<(t w).heap.size:=by
   rw[k]at d
   injection d with _ d
   rw[d]
   simp
  unfold Oper.wp execOp
  simp only[j,resolve,Sem.run_bind,Sem.run_pure,Result.andThen_ok,s,k]
  exact hK _ _ (h _ _ (m _ rfl) p f)
abbrev idE (K:Nat→Int):List Value:=[.int .u8 (K 0),.int .u8 (K 1),.int .u8 (K 2),.int .u8 (K 3),.int .u8 (K 4),.int .u8 (K 5),.int .u8 (K 6),.int .u8 (K 7),.int .u8 (K 8),.int .u8 (K 9),.int .u8 (K 10),.int .u8 (K 11),.int .u8 (K 12),.int .u8 (K 13),.int .u8 (K 14),.int .u8 (K 15)]
theorem aGu {w:World}{g:Nat}{T:TypeId}{K:Nat→Int}(h:Blk w g (idE K) T):w.rangeAt g 0 (idE K):=fun j v hj=>by rw[Nat.zero_add];exact h.cell hj
theorem aGv {w:World}{B n c d:Nat}{l:List (Kn×Value)}(h:OwnK w B (some ⟨d,0,none⟩) n c l)(x:Nat)(r:x<n):w.there d (x*5) 5:=fun j hj=>by
 have f:=h.len
 obtain⟨b,e,_,_,q⟩:=OwnE.cell h (i:=x*5+j) (by rw[f];omega)
 injection e with e
 injection e with e
 subst e
 refine⟨?_,?_⟩
 ·rw[q,yG (by rw[f];omega)]
  rfl
 ·rcases h.2.2 with⟨a,m⟩|⟨k,p,g,a,m,o,s⟩
  ·cases a
  ·injection a with e1 e2 e3
   injection e1 with e1
   injection e1 with e1
   subst e1
   simp[World.frozen?,o]
theorem aDH {w w':World}{g:Nat}{l:List Value}{T:TypeId}(e:w'.heap[g]? =w.heap[g]?)(h:Blk w g l T):Blk w' g l T:=e.trans h
theorem aKU {w:World}{g:Nat}{K:Nat→Int}{T:TypeId}(h:Blk w g ((idL K).map (Value.int .u8)) T):Blk w g (idE K) T:=h
theorem aIC {w:World}{g:Nat}{T:TypeId}{m:Mk}{S:Sl}(h:Blk w g (Mk.cells m S) T)(o n:Nat)(a:o+n≤147):w.there g o n:=fun j hj=>⟨by rw[h.cell (Mk.get _ _ (o+j) (by omega))];rfl,h.frozen _⟩
theorem aBd {w w2:World}{c:Array Oper}{rest:List Oper}{d:Oper}{a:Act}{Q:Exit→Act→World→Prop}(f:d.guard=none)(g:TypeId)(x y:Operand)(i:d.op= .store g x y)
 (b o:Nat)(cells:Array Value)(m:a.eval x= .pointer (some ⟨b,o,none⟩))(j:a.eval y= .agg cells)(k:w.there b o cells.size)(l:(Tryz.prog.info? g).map (·.size)=some cells.size)(n:cells.all (·.oneCell')=true)
 (e:w2=w.setCells b o cells.toList)(h:wpList Tryz.prog c Q rest (a.put d.dst undef) w2):wpList Tryz.prog c Q (d::rest) a w:=by
 subst e
 exact wpList_store_mid f g x y i b o cells m j k l n h
theorem aKV (K:Nat→Int):(idE K).toArray.all (·.oneCell')=true:=by simp[Value.oneCell']
theorem knI:(Tryz.prog.info? 142).map (·.size)=some 5:=by kernel_rfl
theorem aB9 {w:World}{c:Array Oper}{o:Oper}{a:Act}{K:Act→World→Prop}{Q:Exit→Act→World→Prop}{F:Prop}(d:o.guard=none)(e:TypeId)(x y:Operand)(g:o.op= .store e x y)
 (b of:Nat)(cells:Array Value)(l:a.eval x= .pointer (some ⟨b,of,none⟩))(i:a.eval y= .agg cells)
 (j:w.there b of cells.size)(k:(Tryz.prog.info? e).map (·.size)=some cells.size)(m:cells.all (·.oneCell')=true)
 (h:K (a.put o.dst undef) (w.setCells b of cells.toList)):if Region.wanted o (yielded c a.tmps)=true then Oper.wp Tryz.prog o a w K Q else F:=by
 have f:Region.wanted o (yielded c a.tmps)=true:=by simp[Region.wanted,d]
 rw[if_pos f]
 exact wp_store_mid e x y g b of cells l i j k m h
theorem kn_at {l:List (Kn×Value)}{m:Mk}(e:l.map Prod.fst=m.datas)(i:Nat)(a:i<l.length):l[i].1=Mk.kn m i:=by
 unfold Mk.kn
 rw[←e,yD,List.getElem?_map,yG a]
 rfl
theorem dataOf_text (m:Mk)(a s:List Int)(h:Inv m)(j:AllB a)(c:a.length≤64)(hs:AllB s)(b:s.length≤400):(Mk.kn (Mk.dataOf m a s).2 (Mk.dataOf m a s).1).text=s:=by
 unfold Mk.dataOf
 cases e:idxK m.datas s with
 |some i=>
  dsimp only
  unfold idxK at e
  obtain⟨g,f,_⟩:=List.findIdx?_eq_some_iff_getElem.1 e
  unfold Mk.kn
  rw[yD,yG g]
  simpa using f
 |none=>
  dsimp only
  obtain⟨_,_,_,d,_⟩:=aCb h a s j c hs b
  unfold Mk.kn
  rw[d,yD,List.getElem?_append_right (yR _),Nat.sub_self]
  rfl
structure L1 (B g b2:Nat)(p:Pl)(m:Mk)(L:List PR)(k:Nat)(w2 wr:World)(q:Pl)(A2:Option Addr)(c2:Nat)(A3:Option Addr)(c3:Nat)(xs:List Value):Prop where
 at_:At wr B g q (Mk.dataAll m (L.take k)).1
 low:Low wr b2 q (Mk.dataAll m (L.take k)).1
 path:Path g p w2 q wr
 who:Side 3 1 wr g q b2 A2 k c2 (iv (Mk.dataAll m (L.take k)).2)
 pay_:Side 26 1 wr g q b2 A3 k c3 xs
 pays:Pays wr g q A3 xs ((L.take k).map fun q=>pay q.1 q.2)
 apart: ∀j,ownB A2=some j→ownB A3≠some j
attribute [local irreducible] Mk.cells wpList Code.wp
variable {B g : Nat} {p : Pl} {m : Mk}
def Appended (B g:Nat)(p:Pl)(m:Mk)(raw:List PR)(real mono:Int)(K:Nat→Int)(w:World)(e:Ending)(w':World):Prop:=
 e= .returned (.tuple #[.int .u64 (if Mk.acode m raw real mono K=0 then m.h.N 9+1 else 0),.int .i64 (Mk.acode m raw real mono K)])∧Stp B g p (Mk.after m raw real mono K) w w'
theorem aCj {a:List PR}{real mono x:Int}{K:Nat→Int}{w w':World}(c:Mk.acode m a real mono K=x)(b:x≠0)(h:Stp B g p m w w'):Appended B g p m a real mono K w (.returned (.tuple #[.int .u64 0,.int .i64 x])) w':=by
 unfold Appended Mk.after
 rw[c,if_neg b,if_neg b]
 exact⟨rfl,h⟩
theorem aEW (Ar:Option Addr)(aE:List PR)(nr cr:Nat)(real mono:Int)(K:Nat→Int)(w:World)(h:At w B g p m)(I:Inv m)(hP:Prs w Ar aE)(hL:aE.length=nr)(hn:nr≤100000)(hb:m.b.length≤32768)(jz:m.C.most≤1000000)(n:IdOk K)(hr:0≤real∧real≤18446744073709551615)(hm:0≤mono∧mono≤18446744073709551615)(h9:0≤m.h.N 9∧m.h.N 9≤18446744073709551615):
 Calls Tryz.prog 27 #[.pointer (some ⟨g,0,none⟩),.slice Ar nr cr,.int .u64 real,.int .u64 mono,idV K] w (Appended B g p m aE real mono K w):=by
 have HA:=yH h
 have HI:=yH I
 have HK:=yH n
 have b0:=yH ((yB w.heap.size w).alloc (yR _) (idC 61 K))
 have R0:=yH (show Blk (w.alloc (idC 61 K)) w.heap.size ((idL K).map (Value.int .u8)) 61 from Blk.new w _ _)
 have eF:=yH (hP.below b0.out)
 have cC:=yH hP.1
 clear h I hP
 go_enter Tryz.func27,Tryz.ntmps27
 go_upto_region 1 with fail
 generalize w.alloc (idC 61 K)=w0 at*
 have ed:=yH (aGj Ar aE nr cr w0 eF.out hL hn)
 unfold ListedN at ed
 obtain⟨n1,ge⟩: ∃x,(listL aE).length=x:=⟨_,rfl⟩
 have cU:=yH ge
 obtain⟨lx,gC⟩: ∃x,listE aE=x:=⟨_,rfl⟩
 have bU:=yH gC
 rw[ge,gC]at ed
 clear ge gC
 go_upto_region 2 with(first|(go_at_call 62;(refine ed.out.mono ?_);rintro e w1 ⟨A1,c1,rfl,hE,g8,iO⟩;have eu:=yH hE;have eG:=yH iO;have aM:=yH (b0.out.trans (g8.mono b0.out.size));have a6:=yH (At.below HA.out aM.out);have R1:=yH (R0.out.below g8 R0.out.lt);clear hE g8 iO)|fail)
 by_cases cV:lx=0
 ·subst cV
  obtain⟨fp,fP⟩:=aFA bU.out
  rw[cU.out]at fp
  by_cases ht:m.h.N 9=18446744073709551615
  ·have cJ:=yH (aDE B g p.bb p.cb p.S m w1 a6.out.st)
   rw[ht]at cJ
   go_wp2_with(first|(go_at_call 26;(refine cJ.out.mono ?_);rintro e w2 ⟨rfl,rfl⟩)|fail)
   go_ret2
   exact aCj (by unfold Mk.acode;rw[bU.out,if_neg (by simp),if_pos ht]) (by decide) ⟨p,a6.out,Path.of_below aM.out⟩
  ·have cJ:=yH (aDE B g p.bb p.cb p.S m w1 a6.out.st)
   have d9:(m.h.N 9==18446744073709551615)=false:=by simpa using ht
   have gA:=yH (aMV w1 a6.out HI.out (by omega))
   unfold Copied at gA
   obtain⟨s9,ff⟩: ∃x,m.h.N 9=x:=⟨_,rfl⟩
   rw[ff]at cJ d9 ht h9
   have aG:=yH ff
   clear ff
   have HT:=yH ht
   clear ht
   go_upto_region 10 with(first
    |(go_at_call 26;(refine cJ.out.mono ?_);rintro e w2 ⟨rfl,rfl⟩)
    |(go_at_call 65;(refine gA.out.mono ?_);rintro e w2 ⟨po,rfl,je,i6⟩;have cZ:=yH je;have ar:=yH i6;clear je i6)
    |fail)
   have gF:=aM.out.size
   have bN: ∀k,p.foot g k→k<w.heap.size:=fun k hk=>(At.lt HA.out k hk).2
   obtain⟨L,eY⟩: ∃x,x=listL aE:=⟨_,rfl⟩
   rw[←eY]at cU fP eu
   have cR:=yH eY
   have ej:=yH eY.symm
   clear eY gA cJ ed
   have bW:=yH fun(q:PR) (hq:q∈L)=>show AllB q.1∧AllB q.2∧q.1.length≤64∧q.2.length≤256 from by
    obtain⟨E,h2⟩:=fP q hq
    have h3:=cC.out q E
    have h4:=aBi h2
    exact⟨h3.1,h3.2.1,h4.1,h4.2⟩
   clear fP
   have gn:=yH fun(wr:World) (q:Pl) (hq:Path g p w2 q wr)=>show Prs wr A1 L from by
    by_cases h0:0<n1
    ·exact eu.out.keptB (Nat.le_trans ar.out.size hq.kept.size) fun b i8 e hb=>(hq.kept.block b (yL hb ar.out.size) (fun hf=>by have:=bN b hf;have:=eG.out b i8 e h0;have:=b0.out.size;omega)).trans (ar.out.block b hb)
    ·rw[List.eq_nil_of_length_eq_zero (show L.length=0 by rw[cU.out];omega)]
     exact Prs.nil _ _
   have dY:=yH (At.below a6.out ar.out)
   go_wp2
   go_loopw [16,17,18] (fun a16 a17 a18 wr=> ∃(k:Nat) (q:Pl) (A2:Option Addr) (c2:Nat) (A3:Option Addr) (c3:Nat) (xs:List Value),k≤n1∧a18= .int .i64 (k:Int)∧a16= .slice A2 k c2∧a17= .slice A3 k c3∧Hid (L1 B g w2.heap.size p m L k w2 wr q A2 c2 A3 c3 xs)) (fun _ _ i _=>n1-(intOf i).toNat)
   case atStart=>exact⟨0,p,none,0,none,0,[],Nat.zero_le _,rfl,rfl,rfl,yH ⟨dY.out,At.low dY.out (yR _),Path.refl _ _ _,⟨OwnE.nil _ _ (yR _),fun _ h=>by cases h⟩,⟨OwnE.nil _ _ (yR _),fun _ h=>by cases h⟩,⟨rfl,fun r hr=>absurd hr (by simp)⟩,fun _ h=>by cases h⟩⟩
   case round=>
    obtain⟨k,q,A2,c2,A3,c3,xs,hk,rfl,rfl,rfl,eJ⟩:=hrel
    by_cases bK:k<n1
    ·have cP:k<L.length:=by rw[cU.out];exact bK
     have fM:k<16:=by omega
     have hD:=aA0 m L k cP
     obtain⟨i1,i2,i3,i4,i5⟩:=aAs HI.out L bW.out k (Nat.le_of_lt cP)
     obtain⟨q1,q2,q3,Z⟩:=bW.out L[k] (List.getElem_mem cP)
     obtain⟨b,i8,jJ,cM,p0,p1⟩:=(gn.out wr q eJ.out.path).2 k cP
     have gI:(L.take (k+1)).map (fun q=>pay q.1 q.2)=(L.take k).map (fun q=>pay q.1 q.2)++ [pay L[k].1 L[k].2]:=by rw[List.take_succ_eq_append_getElem cP,List.map_append];rfl
     obtain⟨aT,ak,aL,aj,bM,aw,e7⟩:=eJ.out
     rw[show L.getD k nil2=L[k]by rw[yD,yG cP];rfl]at p0 p1
     subst jJ
     generalize L[k]=pq at*
     obtain⟨nm,v⟩:=pq
     dsimp only at q1 q2 q3 Z p0 p1 gI
     rcases hdk:Mk.dataAll m (L.take k)with⟨dk,who⟩
     rw[hdk]at hD i1 i2 i3 i4 i5 aT ak aj
     dsimp only at i1 i2 i3 i4 i5 aT ak aj
     have eX:=yH (aMP nm v wr aT i1 q1 q2 ⟨q3,Z⟩ (by omega))
     have i7:(pay nm v).length≤400:=by rw[Fa.pay_len];omega
     have gG:=aBr q1 q2
     obtain⟨j1,j2,j3,j4⟩:=aC1 i1 nm (pay nm v) q1 q3 gG i7
     have fe:=dataOf_text dk nm (pay nm v) i1 q1 q3 gG i7
     unfold dataStep at hD
     dsimp only at hD
     generalize pay nm v=s at*
     rcases hdo:Mk.dataOf dk nm s with⟨j,m3⟩
     rw[hdo]at hD j1 j2 j3 j4 fe eX
     dsimp only at hD j1 j2 j3 j4 fe eX
     have HD:=yH hD
     have ic:=yH gI
     have fL:=yH aT
     have eg:=yH ak
     have cD:=yH aL
     have en:=yH aj
     have el:=yH bM
     have cF:=yH aw
     have d6:=yH e7
     have iW:=yH fe
     have et:=yH i5
     have gc:=yH j4
     have cl:=yH i3
     clear hD gI aT ak aL aj bM aw e7 hdo hdk fe i5 j4 i3
     go_upto_region 14 with(first
      |(go_at_call 66;(refine eX.out.mono ?_);rintro e w3 ⟨rfl,q3,ho,iz,hQ,jf⟩;have aY:=yH ho;have dd:=yH iz;have jx:=yH hQ;have jp:=yH jf;clear ho iz hQ jf)
      |fail)
     have gJ:=yH (en.out.path dd.out)
     have ck:=yH (el.out.path dd.out)
     have eN:=yH (cF.out.path dd.out)
     have gq:=yH (Low.path eg.out fL.out dd.out jx.out jp.out gc.out.main)
     have cB:=yH (cD.out.trans dd.out)
     have gx:j<q3.dl.length:=by have e:=congrArg List.length aY.out.dm;rw[List.length_map]at e;omega
     obtain⟨J,ab,jP,d0,_,_,_,_⟩:=aBp aY.out.dr j gx
     have fo:=At.cd aY.out
     obtain⟨aJ,b6⟩: ∃x,q3.nd=x:=⟨_,rfl⟩
     have HNd:=yH b6
     rw[ab,b6]at fo
     clear b6
     rw[kn_at aY.out.dm j gx,iW.out]at d0
     have bu:j<aJ:=by rw[←HNd.out,←aAy aY.out.dr];exact gx
     have aD:aJ≤100000:=by
      have e:=congrArg List.length aY.out.dm
      rw[List.length_map,aAy aY.out.dr,HNd.out]at e
      have:=j1.dn
      omega
     obtain⟨ns,dQ⟩: ∃x,s.length=x:=⟨_,rfl⟩
     have io:=yH dQ
     have jM:=cB.out.kept.size
     clear dQ
     go_upto_region 15 with(first
      |(refine aGt rfl (.tmp 62) rfl s gG ns io.out w3.heap.size rfl rfl ?_;intro c4 w4 fg fK fJ;have fI:=yH fJ;have ii:=yH fg;have aW:=yH fK.below;clear fg fK fJ)
      |(at_builtin;(refine aAe rowE rfl (.tmp 54) (.tmp 64) rfl w2.heap.size A3 k c3 xs rfl (OwnE.alloc ((ck.out.below aW.out).own) _) ⟨w4.heap.size,0,none⟩ 1 1 [.slice (some ⟨w3.heap.size,0,none⟩) ns c4] rfl rfl (Blk.news (Blk.new w4 _ _)) (by simp[Value.oneCell']) (by omega) (by omega) (by unfold maxLen;omega) ?_);intro A5 c5 w5 ha fm fh;have iY:=yH ha;have a5:=yH fm;have eK:=yH fh;clear ha fm fh)
      |fail)
     have bo:=(yB w4.heap.size w4).alloc (yR _) (.cells #[.slice (some ⟨w3.heap.size,0,none⟩) ns c4] 26)
     have cj:=aW.out.trans (bo.mono aW.out.size)
     have j6:=cj.size
     have cH:=At.below aY.out cj
     have dH:=Low.path gq.out aY.out (Path.of_below cj) (fun x hx=> .inl hx) rfl rfl
     have a9:=gJ.out.below cj
     have bn:=ck.out.below cj
     have ct:=eN.out.below cj
     have fy:=At.lt aY.out
     have gu: ∀k',ownB A3=some k'→w2.heap.size≤k'∧ ¬q3.foot g k':=fun k' E=>⟨(OwnE.ltB bn.own k' E).1,bn.off k' E⟩
     obtain⟨fH,cG⟩:=At.offA cH dH (KeptF.grow _ a5.out) gu
     have HA5:=yH fH
     have HLow5:=yH cG
     have ah:=yH (Path.side (cB.out.below cj) (KeptF.grow _ a5.out) fun k' E=>(gu k' E).1)
     have b7:=yH (show Side 3 1 w5 g q3 w2.heap.size A2 k c2 (iv who)from⟨OwnE.keptG a9.own a5.out (d6.out),a9.off⟩)
     have ca:=yH (show Side 26 1 w5 g q3 w2.heap.size A5 (k+1) c5 (xs++ [.slice (some ⟨w3.heap.size,0,none⟩) ns c4])from⟨iY.out,fun k' E h2=>by
      rcases eK.out with h3|h3
      ·exact bn.off k' (h3▸E) h2
      ·rw[h3]at E
       injection E with E
       have:=(fy k' h2).2
       omega⟩)
     have bi:=yH (Pays.push ct a5.out eK.out w3.heap.size c4 s ((aBc ii.out bo.size (bo.block _ fI.out))) (by have:=fI.out;have:=bo.size;omega) (fun h2=>by have:=(fy _ h2).2;omega) (fun h2=>by have:=(OwnE.ltB ck.out.own _ h2).2;omega))
     rw[io.out]at bi
     have iw:=yH (show ∀j',ownB A2=some j'→ownB A5≠some j' from fun j' E h2=>by
      rcases eK.out with h3|h3
      ·exact d6.out j' E (h3▸h2)
      ·rw[h3]at h2
       injection h2 with h2
       have:=(OwnE.ltB a9.own j' E).2
       omega)
     have kf:=a5.out.size
     clear fH cG cH dH a9 bn ct iY eK a5 gu bo fo d0 ab
     obtain⟨f,hf⟩: ∃f:Nat→Nat,f=fun i=>(Mk.kn m3 i).at_:=⟨_,rfl⟩
     rw[←hf]at HD
     have HF:=yH fun i=>congrFun hf i
     clear hf
     have bz:who.length=k:=i2
     have gK:=yH fun(i:Nat) (hi:i<m3.datas.length)=>show f i≤100000 from by
      rw[HF.out]
      have hk:Mk.kn m3 i=m3.datas[i]:=by unfold Mk.kn;rw[yD,yG hi];rfl
      have:=(j1.dat _ (List.getElem_mem hi)).1
      rw[hk]
      omega
     have dX:=yH fun(wr':World) (hb':Below w5.heap.size w5 wr') (i:Nat) (hi:i<q3.dl.length)=>show ∃b,q3.D=some ⟨b,0,none⟩∧wr'.cell? ⟨b,i*5+1,none⟩=some (.int .u64 (f i:Int))from by
      obtain⟨b',e',_,_,E,_⟩:=aBp (At.below HA5.out hb').dr i hi
      rw[kn_at HA5.out.dm i hi,←HF.out]at E
      exact⟨b',e',E⟩
     have hF:q3.dl.length=m3.datas.length:=by rw[←HA5.out.dm,List.length_map]
     have a0:=yH (show aJ=m3.datas.length by rw[←HNd.out,←aAy HA5.out.dr,hF])
     go_wp2
     go_loopw [20] (fun a20 wr'=> ∃a:Nat,a≤k∧a20= .int .i64 (a:Int)∧Hid (posW f (f j) who who.length=posW f (f j) who a)∧Hid (Below w5.heap.size w5 wr')) (fun i _=>(intOf i).toNat)
     case atStart=>exact⟨k,yR _,rfl,yH (by rw[bz]),yH (yB _ _)⟩
     case round=>
      obtain⟨a,f7,rfl,de,hbw⟩:=hrel
      obtain⟨cK,aA⟩: ∃c:Bool,c=(decide (0<a)&&decide (f j<f (who.getD (a-1) 0))):=⟨_,rfl⟩
      go_upto_region 16 with fail
      go_cut [20,92]from 68 to 92 (fun i z wx=>i= .int .i64 (a:Int)∧z= .bool cK∧Hid (Below w5.heap.size w5 wx))
      case first=>
       rcases Nat.eq_zero_or_pos a with h0|h0
       ·subst h0
        have du:cK=false:=by rw[aA];simp
        subst du
        clear aA
        go_region
        go_wp2
        go_meet
        case rel=>exact⟨by go_num,rfl,yH (hbw.out.drew)⟩
       ·obtain⟨a',rfl⟩: ∃a',a=a'+1:=⟨a-1,by omega⟩
        have iE:=At.below HA5.out hbw.out
        have iT:wr.cell? ⟨g,144,none⟩=some (.slice q3.D aJ q3.cd):=HNd.out▸At.cd iE
        obtain⟨bw,dc,j8⟩:=aEf (b7.out.below hbw.out).own a' (by omega)
        have aS:who.getD a' 0<m3.datas.length:=by
         rw[yD,yG (by omega:a'<who.length)]
         exact yL (cl.out _ (List.getElem_mem _)) gc.out.datas
        obtain⟨b1,ab,r1⟩:=dX.out wr hbw.out (who.getD a' 0) (by omega)
        obtain⟨b2,a1,r2⟩:=dX.out wr hbw.out j (by omega)
        rw[ab]at a1 iT
        injection a1 with a1
        injection a1 with a1
        subst a1
        have km:=gK.out _ aS
        have kc:=gK.out j (by omega)
        have il:cK=decide ((f j:Int)<(f (who.getD a' 0):Int)):=by rw[aA];simp
        clear aA iE
        have jZ:who.getD a' 0<aJ:=by have:=a0.out;omega
        have HC:=yH il
        clear il ab
        subst dc
        generalize who.getD a' 0=x at*
        generalize f x=fx at*
        generalize f j=fj at*
        by_cases go:fj<fx
        ·have d1:decide ((fj:Int)<(fx:Int))=true:=by simp;omega
         have du:cK=true:=by rw[HC.out];exact d1
         subst du
         go_region
         go_wp2
         go_meet
         case rel=>exact⟨by go_num,rfl,yH (hbw.out.drew)⟩
        ·have d1:decide ((fj:Int)<(fx:Int))=false:=by simp;omega
         have du:cK=false:=by rw[HC.out];exact d1
         subst du
         go_region
         go_wp2
         go_meet
         case rel=>exact⟨by go_num,rfl,yH (hbw.out.drew)⟩
      case rest=>
       obtain⟨rfl,rfl,c0⟩:=hcut
       cases cQ:cK with
       |true=>
        have hc2:=cQ▸aA
        have gZ:0<a:=by
         rcases Nat.eq_zero_or_pos a with h|h
         ·rw[h]at hc2;simp at hc2
         ·exact h
        have go:f j<f (who.getD (a-1) 0):=by simpa [gZ]using hc2.symm
        have dq:posW f (f j) who a=posW f (f j) who (a-1):=by
         obtain⟨a',rfl⟩: ∃a',a=a'+1:=⟨a-1,by omega⟩
         exact if_pos (show f j<f (who.getD a' 0)from go)
        have gk:=yH (de.out.trans dq)
        clear aA cQ hc2 go dq
        go_wp2
        go_roundw
        case rel=>exact⟨a-1,by omega,by go_num,gk,c0⟩
        case measure=>simp[intOf];omega
       |false=>
        have hc2:=cQ▸aA
        have dq:posW f (f j) who a=a:=by
         rcases Nat.eq_zero_or_pos a with h|h
         ·rw[h];rfl
         ·obtain⟨a',rfl⟩: ∃a',a=a'+1:=⟨a-1,by omega⟩
          have h2: ¬f j<f (who.getD a' 0):=by
           intro h3
           have:(decide (0<a'+1)&&decide (f j<f (who.getD (a'+1-1) 0)))=true:=by rw[Nat.add_sub_cancel,decide_eq_true h3];simp
           rw[←hc2]at this
           cases this
          rw[posW,if_neg h2]
        have gk:=yH (show insW f who j=who.take a++j::who.drop a by unfold insW;rw[de.out,dq])
        clear aA cQ hc2 dq de
        go_upto_region 18 with fail
        rename World=>wd
        have iF:who.length=k:=bz
        have e8:=yH (b7.out.below c0.out).own
        have bP:=yH (show a+1+(k-a)=k+1 by omega)
        have dS:=yH fun(A8:Option Addr) (c8:Nat) (w8:World) (bh:OwnE 3 1 w8 wd.heap.size A8 (k+1) c8 (iv (insW f who j))) (ch:Below wd.heap.size wd w8)=>show L1 B g w2.heap.size p m L (k+1) w2 w8 q3 A8 c8 A5 c5 (xs++ [.slice (some ⟨w3.heap.size,0,none⟩) ns c4])from by
         have bp:=c0.out.trans (ch.mono c0.out.size)
         have jU:=c0.out.size
         exact
          {at_:=by rw[HD.out];exact At.below HA5.out bp
           low:=by rw[HD.out];exact Low.path HLow5.out HA5.out (Path.of_below bp) (fun x hx=> .inl hx) rfl rfl
           path:=ah.out.below bp
           who:=by
            rw[HD.out]
            refine⟨aEe bh (by omega),fun k' E h2=>?_⟩
            have h3:=(OwnE.ltB bh k' E).1
            have h4:=(At.lt HA5.out k' h2).2
            omega
           pay_:=ca.out.below bp
           pays:=by rw[ic.out];exact bi.out.below bp
           apart:=fun j' E h2=>by
            have h3:=(OwnE.ltB bh j' E).1
            have h4:=(OwnE.ltB ca.out.own j' h2).2
            omega}
        have gD:=aIw e8.out
        have j7:=fun W=>aPW A2 k c2 a (by omega) W
        have jT:=fun W=>aPX A2 k c2 a f7 W
        have cW:=yH fun(W:World) (hb:Below wd.heap.size wd W)=>aKC (e8.out.kept hb (yR _)) f7
        have a3:=yH fun(W:World) (hb:Below wd.heap.size wd W)=>aKD (e8.out.kept hb (yR _)) f7
        have jd: []++iv (List.take a who)++iv [j]++iv (List.drop a who)=iv (insW f who j):=by rw[gk.out];simp[iv]
        have fV:=yH jd
        try clear jd
        try clear iF
        try clear e8
        try clear gD
        try clear HA5
        try clear HLow5
        try clear ah
        try clear b7
        try clear ca
        try clear bi
        try clear iw
        try clear dX
        try clear gK
        try clear HF
        try clear cl
        try clear gc
        try clear iW
        try clear et
        try clear HD
        try clear ic
        try clear fL
        try clear eg
        try clear cD
        try clear en
        try clear el
        try clear cF
        try clear d6
        try clear eX
        try clear gn
        try clear HA
        try clear HI
        try clear HK
        try clear b0
        try clear R0
        try clear eF
        try clear cC
        try clear ed
        try clear aM
        try clear a6
        try clear R1
        try clear bU
        try clear bW
        try clear cR
        try clear dY
        try clear eG
        try clear eu
        try clear bN
        try clear gF
        try clear cZ
        try clear ar
        have B1:=yH (show Below wd.heap.size wd (wd.drew.alloc (.cells #[] 3))from(yB _ _).drew.alloc (yR _) _)
        have B2:=yH (B1.out.alloc B1.out.size (.cells #[.int .i64 (j:Int)] 3))
        have eQ:=(show Below wd.heap.size wd (wd.drew.alloc (.cells #[.int .i64 (j:Int)] 3))from(yB _ _).drew.alloc (yR _) _)
        have B3:=yH (eQ.alloc eQ.size (.cells #[] 3))
        have E1:=yH (aGl wd.drew wd.heap.size (yR _))
        have E2:=yH (OwnE.alloc E1.out (.cells #[.int .i64 (j:Int)] 3))
        have E3:=yH (show OwnE 3 1 ((wd.drew.alloc (.cells #[.int .i64 (j:Int)] 3)).alloc (.cells #[] 3)) wd.heap.size (some ⟨wd.heap.size+1,0,none⟩) 0 0 []from by
         have:=aGl (wd.drew.alloc (.cells #[.int .i64 (j:Int)] 3)) wd.heap.size eQ.size
         simpa using this)
        have J2:=yH (show Blk ((wd.drew.alloc (.cells #[] 3)).alloc (.cells #[.int .i64 (j:Int)] 3)) (wd.heap.size+1) (iv [j]) 3 from Blk.new_at _ _ _ _ (by simp))
        have J3:=yH (show Blk ((wd.drew.alloc (.cells #[.int .i64 (j:Int)] 3)).alloc (.cells #[] 3)) wd.heap.size (iv [j]) 3 from(Blk.new wd.drew (iv [j]) _).alloc _)
        clear eQ
        refine wp_region_noPanic ?_
        refine wp_region_held_drew (S:=fun _:World=>True) (by kernel_rfl) trivial (fun hHeld=>?_)
        refine tk (i:=1) (oi:=⟨some 96,_,_,_,_,_⟩) (v:=?_) rfl (Or.inl ⟨by rfl,?_⟩) ?_
        rotate_left
        ·intro W d;go_simp;try (with_reducible rfl)
        try simp only[Act.put,sA,sZ,sS]
        refine tk (i:=2) (oi:=⟨some 97,_,_,_,_,_⟩) (v:=?_) rfl (Or.inl ⟨by rfl,?_⟩) ?_
        rotate_left
        ·intro W d;go_simp;try (with_reducible rfl)
        try simp only[Act.put,sA,sZ,sS]
        refine tk (i:=3) (oi:=⟨some 98,_,_,_,_,_⟩) (v:=?_) rfl (Or.inl ⟨by rfl,?_⟩) ?_
        rotate_left
        ·intro W d;go_simp;try (with_reducible rfl)
        try simp only[Act.put,sA,sZ,sS]
        refine tk (i:=5) (oi:=⟨some 100,_,_,_,_,_⟩) (v:=?_) rfl (Or.inl ⟨by rfl,?_⟩) ?_
        rotate_left
        ·intro W d;go_simp;try (with_reducible rfl)
        try simp only[Act.put,sA,sZ,sS]
        refine tk (i:=8) (oi:=⟨some 103,_,_,_,_,_⟩) (v:=?_) rfl (Or.inl ⟨by rfl,?_⟩) ?_
        rotate_left
        ·intro W d;go_simp;try (with_reducible rfl)
        try simp only[Act.put,sA,sZ,sS]
        refine tk (i:=9) (oi:=⟨some 104,_,_,_,_,_⟩) (v:=?_) rfl (Or.inl ⟨by rfl,?_⟩) ?_
        rotate_left
        ·intro W d;go_simp;try (with_reducible rfl)
        try simp only[Act.put,sA,sZ,sS]
        refine tk (i:=10) (oi:=⟨some 105,_,_,_,_,_⟩) (v:=?_) rfl (Or.inl ⟨by rfl,?_⟩) ?_
        rotate_left
        ·intro W d;go_simp;try (with_reducible rfl)
        try simp only[Act.put,sA,sZ,sS]
        refine wpAnyH_ready (rs:=[0,6]) (by kernel_rfl) (by simp) ?_
        refine AllReadyH.cons (o:=⟨some 95,_,_,_,_,_⟩) rfl (fun K n=>?_) (AllReadyH.cons (o:=⟨some 101,_,_,_,_,_⟩) rfl (fun K n=>?_) AllReadyH.nil)
        ·go_simp
         try go_wp2_with fail
         refine n.out _ _ trivial (fun hHeld=>?_)
         clear n K
         try simp only[Act.put,sA,sZ,sS]
         refine wpAnyH_ready (rs:=[4,6]) (by kernel_rfl) (by simp) ?_
         refine AllReadyH.cons (o:=⟨some 99,_,_,_,_,_⟩) rfl (fun K n=>?_) (AllReadyH.cons (o:=⟨some 101,_,_,_,_,_⟩) rfl (fun K n=>?_) AllReadyH.nil)
         ·refine aAn (o:=⟨some 99,_,_,_,_,_⟩) intE rfl (.tmp 95) (.tmp 98) rfl wd.heap.size (some ⟨wd.heap.size,0,none⟩) 0 0 [] rfl E1.out A2 a c2 (iv (who.take a)) rfl a (Nat.zero_add _) (cW.out _ B1.out).1 (cW.out _ B1.out).2 (aCI _) (by omega) (by omega) (by unfold maxLen;omega) ?_
          intro A6 c6 w6 bv ai bH
          have bV:=yH bv
          have a7:=yH (B1.out.trans (below_grown ai B1.out.size (fun q hq=>(OwnE.ltB E1.out q hq).1)))
          clear bv ai bH
          refine n.out _ _ trivial (fun hHeld=>?_)
          clear n K
          try simp only[Act.put,sA,sZ,sS]
          refine wpAnyH_ready (rs:=[6]) (by kernel_rfl) (by simp) ?_
          refine AllReadyH.cons (o:=⟨some 101,_,_,_,_,_⟩) rfl (fun K n=>?_) AllReadyH.nil
          go_simp
          try go_wp2_with fail
          refine n.out _ _ trivial (fun hHeld=>?_)
          clear n K
          try simp only[Act.put,sA,sZ,sS]
          refine wpAnyH_ready (rs:=[7]) (by kernel_rfl) (by simp) ?_
          refine AllReadyH.cons (o:=⟨some 102,_,_,_,_,_⟩) rfl (fun K n=>?_) AllReadyH.nil
          refine aAn (o:=⟨some 102,_,_,_,_,_⟩) intE rfl (.tmp 99) (.tmp 101) rfl wd.heap.size A6 a c6 _ rfl (OwnE.alloc bV.out _) (some ⟨w6.heap.size,0,none⟩) 1 1 (iv [j]) rfl (a+1) rfl rfl (fun q u hq=>⟨_,rfl,Blk.news (Blk.new w6 (iv [j]) _) q u hq⟩) (aCI _) (by omega) (by omega) (by unfold maxLen;omega) ?_
          intro A7 c7 w7 bT aB bG
          have bB:=yH bT
          have ao:=yH ((a7.out.alloc a7.out.size _).trans (below_grown aB (by have:=a7.out.size;simp;omega) (fun q hq=>(OwnE.ltB bV.out q hq).1)))
          clear bT aB bG
          refine n.out _ _ trivial (fun hHeld=>?_)
          clear n K
          try simp only[Act.put,sA,sZ,sS]
          refine wpAnyH_ready (rs:=[11]) (by kernel_rfl) (by simp) ?_
          refine AllReadyH.cons (o:=⟨some 106,_,_,_,_,_⟩) rfl (fun K n=>?_) AllReadyH.nil
          refine aAn (o:=⟨some 106,_,_,_,_,_⟩) intE rfl (.tmp 102) (.tmp 105) rfl wd.heap.size A7 (a+1) c7 _ rfl bB.out (cutA A2 c2 a) (k-a) (c2-a) (iv (who.drop a)) rfl (k+1) bP.out (a3.out _ ao.out).1 (a3.out _ ao.out).2 (aCI _) (by omega) (by omega) (by unfold maxLen;omega) ?_
          intro A8 c8 w8 bq aC bL
          have bh:=yH (fV.out▸bq)
          have ch:=yH (ao.out.trans (below_grown aC ao.out.size (fun q hq=>(OwnE.ltB bB.out q hq).1)))
          clear bq aC bL
          refine n.out _ _ trivial (fun hHeld=>?_)
          clear n K
          try simp only[Act.put,sA,sZ,sS]
          refine tk (i:=12) (oi:=⟨some 16,_,_,_,_,_⟩) (v:=?_) rfl (Or.inl ⟨by rfl,?_⟩) ?_
          rotate_left
          ·intro W d;go_simp;try (with_reducible rfl)
          try simp only[Act.put,sA,sZ,sS]
          refine wpAnyH_done (by kernel_rfl) ?_ _
          refine NoPanic.normal ?_
          try go_wp2_with fail
          go_roundw
          case measure=>simp[intOf];omega
          case rel=>exact⟨k+1,q3,A8,c8,A5,c5,_,by omega,by go_num,rfl,rfl,yH (dS.out A8 c8 _ bh.out ch.out)⟩
         ·go_simp
          try go_wp2_with fail
          refine n.out _ _ trivial (fun hHeld=>?_)
          clear n K
          try simp only[Act.put,sA,sZ,sS]
          refine wpAnyH_ready (rs:=[4]) (by kernel_rfl) (by simp) ?_
          refine AllReadyH.cons (o:=⟨some 99,_,_,_,_,_⟩) rfl (fun K n=>?_) AllReadyH.nil
          refine aAn (o:=⟨some 99,_,_,_,_,_⟩) intE rfl (.tmp 95) (.tmp 98) rfl wd.heap.size (some ⟨wd.heap.size,0,none⟩) 0 0 [] rfl E2.out A2 a c2 (iv (who.take a)) rfl a (Nat.zero_add _) (cW.out _ B2.out).1 (cW.out _ B2.out).2 (aCI _) (by omega) (by omega) (by unfold maxLen;omega) ?_
          intro A6 c6 w6 bv ai bH
          have bV:=yH bv
          have a7:=yH (B2.out.trans (below_grown ai B2.out.size (fun q hq=>(OwnE.ltB E2.out q hq).1)))
          have J6:=yH (aAl (g:=wd.heap.size) J2.out ai (by omega))
          clear bv ai bH
          refine n.out _ _ trivial (fun hHeld=>?_)
          clear n K
          try simp only[Act.put,sA,sZ,sS]
          refine wpAnyH_ready (rs:=[7]) (by kernel_rfl) (by simp) ?_
          refine AllReadyH.cons (o:=⟨some 102,_,_,_,_,_⟩) rfl (fun K n=>?_) AllReadyH.nil
          refine aAn (o:=⟨some 102,_,_,_,_,_⟩) intE rfl (.tmp 99) (.tmp 101) rfl wd.heap.size A6 a c6 _ rfl bV.out (some ⟨wd.heap.size+1,0,none⟩) 1 1 (iv [j]) rfl (a+1) rfl rfl (fun q u hq=>⟨_,rfl,Blk.news J6.out q u hq⟩) (aCI _) (by omega) (by omega) (by unfold maxLen;omega) ?_
          intro A7 c7 w7 bT aB bG
          have bB:=yH bT
          have ao:=yH (a7.out.trans (below_grown aB a7.out.size (fun q hq=>(OwnE.ltB bV.out q hq).1)))
          clear bT aB bG
          refine n.out _ _ trivial (fun hHeld=>?_)
          clear n K
          try simp only[Act.put,sA,sZ,sS]
          refine wpAnyH_ready (rs:=[11]) (by kernel_rfl) (by simp) ?_
          refine AllReadyH.cons (o:=⟨some 106,_,_,_,_,_⟩) rfl (fun K n=>?_) AllReadyH.nil
          refine aAn (o:=⟨some 106,_,_,_,_,_⟩) intE rfl (.tmp 102) (.tmp 105) rfl wd.heap.size A7 (a+1) c7 _ rfl bB.out (cutA A2 c2 a) (k-a) (c2-a) (iv (who.drop a)) rfl (k+1) bP.out (a3.out _ ao.out).1 (a3.out _ ao.out).2 (aCI _) (by omega) (by omega) (by unfold maxLen;omega) ?_
          intro A8 c8 w8 bq aC bL
          have bh:=yH (fV.out▸bq)
          have ch:=yH (ao.out.trans (below_grown aC ao.out.size (fun q hq=>(OwnE.ltB bB.out q hq).1)))
          clear bq aC bL
          refine n.out _ _ trivial (fun hHeld=>?_)
          clear n K
          try simp only[Act.put,sA,sZ,sS]
          refine tk (i:=12) (oi:=⟨some 16,_,_,_,_,_⟩) (v:=?_) rfl (Or.inl ⟨by rfl,?_⟩) ?_
          rotate_left
          ·intro W d;go_simp;try (with_reducible rfl)
          try simp only[Act.put,sA,sZ,sS]
          refine wpAnyH_done (by kernel_rfl) ?_ _
          refine NoPanic.normal ?_
          try go_wp2_with fail
          go_roundw
          case measure=>simp[intOf];omega
          case rel=>exact⟨k+1,q3,A8,c8,A5,c5,_,by omega,by go_num,rfl,rfl,yH (dS.out A8 c8 _ bh.out ch.out)⟩
        ·go_simp
         try go_wp2_with fail
         refine n.out _ _ trivial (fun hHeld=>?_)
         clear n K
         try simp only[Act.put,sA,sZ,sS]
         refine wpAnyH_ready (rs:=[0]) (by kernel_rfl) (by simp) ?_
         refine AllReadyH.cons (o:=⟨some 95,_,_,_,_,_⟩) rfl (fun K n=>?_) AllReadyH.nil
         go_simp
         try go_wp2_with fail
         refine n.out _ _ trivial (fun hHeld=>?_)
         clear n K
         try simp only[Act.put,sA,sZ,sS]
         refine wpAnyH_ready (rs:=[4]) (by kernel_rfl) (by simp) ?_
         refine AllReadyH.cons (o:=⟨some 99,_,_,_,_,_⟩) rfl (fun K n=>?_) AllReadyH.nil
         refine aAn (o:=⟨some 99,_,_,_,_,_⟩) intE rfl (.tmp 95) (.tmp 98) rfl wd.heap.size (some ⟨wd.heap.size+1,0,none⟩) 0 0 [] rfl E3.out A2 a c2 (iv (who.take a)) rfl a (Nat.zero_add _) (cW.out _ B3.out).1 (cW.out _ B3.out).2 (aCI _) (by omega) (by omega) (by unfold maxLen;omega) ?_
         intro A6 c6 w6 bv ai bH
         have bV:=yH bv
         have a7:=yH (B3.out.trans (below_grown ai B3.out.size (fun q hq=>(OwnE.ltB E3.out q hq).1)))
         have J6:=yH (aAl (g:=wd.heap.size+1) J3.out ai (by omega))
         clear bv ai bH
         refine n.out _ _ trivial (fun hHeld=>?_)
         clear n K
         try simp only[Act.put,sA,sZ,sS]
         refine wpAnyH_ready (rs:=[7]) (by kernel_rfl) (by simp) ?_
         refine AllReadyH.cons (o:=⟨some 102,_,_,_,_,_⟩) rfl (fun K n=>?_) AllReadyH.nil
         refine aAn (o:=⟨some 102,_,_,_,_,_⟩) intE rfl (.tmp 99) (.tmp 101) rfl wd.heap.size A6 a c6 _ rfl bV.out (some ⟨wd.heap.size,0,none⟩) 1 1 (iv [j]) rfl (a+1) rfl rfl (fun q u hq=>⟨_,rfl,Blk.news J6.out q u hq⟩) (aCI _) (by omega) (by omega) (by unfold maxLen;omega) ?_
         intro A7 c7 w7 bT aB bG
         have bB:=yH bT
         have ao:=yH (a7.out.trans (below_grown aB a7.out.size (fun q hq=>(OwnE.ltB bV.out q hq).1)))
         clear bT aB bG
         refine n.out _ _ trivial (fun hHeld=>?_)
         clear n K
         try simp only[Act.put,sA,sZ,sS]
         refine wpAnyH_ready (rs:=[11]) (by kernel_rfl) (by simp) ?_
         refine AllReadyH.cons (o:=⟨some 106,_,_,_,_,_⟩) rfl (fun K n=>?_) AllReadyH.nil
         refine aAn (o:=⟨some 106,_,_,_,_,_⟩) intE rfl (.tmp 102) (.tmp 105) rfl wd.heap.size A7 (a+1) c7 _ rfl bB.out (cutA A2 c2 a) (k-a) (c2-a) (iv (who.drop a)) rfl (k+1) bP.out (a3.out _ ao.out).1 (a3.out _ ao.out).2 (aCI _) (by omega) (by omega) (by unfold maxLen;omega) ?_
         intro A8 c8 w8 bq aC bL
         have bh:=yH (fV.out▸bq)
         have ch:=yH (ao.out.trans (below_grown aC ao.out.size (fun q hq=>(OwnE.ltB bB.out q hq).1)))
         clear bq aC bL
         refine n.out _ _ trivial (fun hHeld=>?_)
         clear n K
         try simp only[Act.put,sA,sZ,sS]
         refine tk (i:=12) (oi:=⟨some 16,_,_,_,_,_⟩) (v:=?_) rfl (Or.inl ⟨by rfl,?_⟩) ?_
         rotate_left
         ·intro W d;go_simp;try (with_reducible rfl)
         try simp only[Act.put,sA,sZ,sS]
         refine wpAnyH_done (by kernel_rfl) ?_ _
         refine NoPanic.normal ?_
         try go_wp2_with fail
         go_roundw
         case measure=>simp[intOf];omega
         case rel=>exact⟨k+1,q3,A8,c8,A5,c5,_,by omega,by go_num,rfl,rfl,yH (dS.out A8 c8 _ bh.out ch.out)⟩
    ·obtain rfl:k=n1:=by omega
     obtain⟨i1,i2,i3,i4,i5⟩:=aAs HI.out L bW.out k (by rw[cU.out];exact yR _)
     obtain⟨aT,ak,aL,aj,bM,aw,e7⟩:=eJ.out
     have dz:L.take k=L:=List.take_of_length_le (by rw[cU.out];exact yR _)
     rw[dz]at i1 i2 i3 i4 i5 aT ak aj aw
     rcases hdk:Mk.dataAll m L with⟨t,who⟩
     rw[hdk]at i1 i2 i3 i4 i5 aT ak aj
     dsimp only at i1 i2 i3 i4 i5 aT ak aj
     have gX:=yH hdk
     have b8:=yH aT
     have fn:=yH ak
     have ci:=yH aL
     have cA:=yH aj
     have dR:=yH bM
     have bZ:=yH aw
     have ay:=yH i1
     have cl:=yH i3
     have et:=yH i5
     have ew:=yH i4
     have aZ:=yH i2
     have fM:k≤16:=fp
     clear hdk aT ak aL aj bM aw e7 i1 i2 i3 i5 eJ dz gn
     rename World=>wA
     obtain⟨fA,hY⟩: ∃f:Nat→Nat,∀i,f i=(Mk.kn t (who.getD i 0)).at_:=⟨_,fun i=>rfl⟩
     obtain⟨hA,jh⟩: ∃f:Nat→Int,∀i,f i=Mk.sum t (Mk.kn t (who.getD i 0)).text:=⟨_,fun i=>rfl⟩
     have cX:=yH hY
     have di:=yH jh
     clear hY jh
     have eL:=yH fun(x:Nat) (hx:x<t.datas.length)=>show Mk.kn t x∈t.datas from by
      unfold Mk.kn
      rw[yD,yG hx]
      exact List.getElem_mem hx
     have e6:=yH fun(i:Nat) (hi:i<k)=>show who.getD i 0<t.datas.length from by
      rw[yD,yG (by rw[aZ.out];exact hi:i<who.length)]
      exact cl.out _ (List.getElem_mem _)
     have cy:q.dl.length=t.datas.length:=by rw[←b8.out.dm,List.length_map]
     obtain⟨nd,b6⟩: ∃x,q.nd=x:=⟨_,rfl⟩
     have HNd:=yH b6
     have a0:=yH (show nd=t.datas.length by rw[←b6,←aAy b8.out.dr,cy])
     have bS:=yH cy
     clear b6 cy
     have hnd9:nd≤100000:=by have:=ay.out.dn;have:=a0.out;omega
     go_wp2
     go_loopw [15,21] (fun a15 a21 wr=> ∃(i:Nat) (A9:Option Addr) (c9:Nat),i≤k∧a21= .int .i64 (i:Int)∧a15= .slice A9 i c9∧Hid (OwnE 145 2 wr wA.heap.size A9 i c9 (itv (fun i=>(fA i:Int)) hA i))∧Hid (Below wA.heap.size wA wr)) (fun _ i _=>k-(intOf i).toNat)
     case atStart=>exact⟨0,none,0,Nat.zero_le _,rfl,rfl,yH (OwnE.nil _ _ (yR _)),yH (yB _ _)⟩
     case round=>
      obtain⟨i,A9,c9,kj,rfl,rfl,cI,aq⟩:=hrel
      by_cases bK:i<k
      ·have hx:=e6.out i bK
       have cL:=At.below b8.out aq.out
       have az:wr.drew.cell? ⟨g,144,none⟩=some (.slice q.D nd q.cd):=HNd.out▸At.cd (At.drew cL)
       obtain⟨bw,dc,aR⟩:=aEf (cA.out.below aq.out).own i (by rw[aZ.out];exact bK)
       subst dc
       obtain⟨J,ab,cM,d0,d1,d2,d3,d4⟩:=aBp cL.dr (who.getD i 0) (by rw[bS.out];exact hx)
       rw[ab]at az
       rw[kn_at cL.dm _ (by rw[bS.out];exact hx)]at d0 d1 d2 d3
       rw[←cX.out]at d1
       have jV:who.getD i 0<nd:=by rw[a0.out];exact hx
       have dT:=ay.out.dat _ (eL.out _ hx)
       have gz:=di.out i
       have hG:=dT.2.1
       have jn:=dT.2.2.1
       have ko:fA i≤100000:=by rw[cX.out];omega
       generalize jr:Mk.kn t (who.getD i 0)=kx at*
       obtain⟨tx,ax,sx,nx,rx⟩:=kx
       dsimp only at d0 d2 d3 gz hG jn
       have jI:=yH gz
       obtain⟨Av,nv,cv,ev,_,_⟩:=cL.da _ (List.getElem_mem (by rw[bS.out];exact hx:who.getD i 0<q.dl.length))
       rw[ev]at d4
       clear ev
       generalize who.getD i 0=x at*
       clear jr dT gz ab
       have e0:wr.drew.cell? ⟨J,x*5,none⟩=some (.string (T tx)):=d0
       have e1:wr.drew.cell? ⟨J,x*5+1,none⟩=some (.int .u64 (fA i:Int)):=d1
       have e2:wr.drew.cell? ⟨J,x*5+2,none⟩=some (.int .i64 (sx:Int)):=d2
       have e3:wr.drew.cell? ⟨J,x*5+3,none⟩=some (.int .i64 (nx:Int)):=d3
       have e4:wr.drew.cell? ⟨J,x*5+4,none⟩=some (.slice Av nv cv):=d4
       have e5:wr.drew.cell? ⟨bw,i,none⟩=some (.int .i64 (x:Int)):=aR
       have cn:=yH fun(W:World) (hW:Below wr.heap.size wr W)=>show W.cell? ⟨g,144,none⟩=some (.slice (some ⟨J,0,none⟩) nd q.cd)∧W.cell? ⟨J,x*5,none⟩=some (.string (T tx))∧W.cell? ⟨J,x*5+1,none⟩=some (.int .u64 (fA i:Int))∧W.cell? ⟨J,x*5+2,none⟩=some (.int .i64 (sx:Int))∧W.cell? ⟨J,x*5+3,none⟩=some (.int .i64 (nx:Int))∧W.cell? ⟨J,x*5+4,none⟩=some (.slice Av nv cv)∧W.cell? ⟨bw,i,none⟩=some (.int .i64 (x:Int))from
        ⟨(hW.cell (p:=⟨g,144,none⟩) cL.st.st.lt).trans az,(hW.cell (p:=⟨J,x*5,none⟩) cM).trans d0,(hW.cell (p:=⟨J,x*5+1,none⟩) cM).trans d1,(hW.cell (p:=⟨J,x*5+2,none⟩) cM).trans d2,(hW.cell (p:=⟨J,x*5+3,none⟩) cM).trans d3,(hW.cell (p:=⟨J,x*5+4,none⟩) cM).trans d4,(hW.cell (p:=⟨bw,i,none⟩) (aAH aR)).trans aR⟩
       have ef:=yH (show Below wr.heap.size wr (wr.alloc (.cells #[.string {data:= #[]},.int .u64 0,.int .i64 0,.int .i64 0,.slice none 0 0] 142)).drew from((yB _ _).alloc (yR _) _).drew)
       have bk:=yH (show Below wr.heap.size wr (wr.alloc (.cells #[.string (T tx),.int .u64 (fA i:Int),.int .i64 (sx:Int),.int .i64 (nx:Int),.slice Av nv cv] 142)).drew from((yB _ _).alloc (yR _) _).drew)
       go_upto_region 22 with fail
       go_region_held3 (fun W=>W.cell? ⟨g,144,none⟩=some (.slice (some ⟨J,0,none⟩) nd q.cd)∧W.cell? ⟨J,x*5,none⟩=some (.string (T tx))∧W.cell? ⟨J,x*5+1,none⟩=some (.int .u64 (fA i:Int))∧W.cell? ⟨J,x*5+2,none⟩=some (.int .i64 (sx:Int))∧W.cell? ⟨J,x*5+3,none⟩=some (.int .i64 (nx:Int))∧W.cell? ⟨J,x*5+4,none⟩=some (.slice Av nv cv)∧W.cell? ⟨bw,i,none⟩=some (.int .i64 (x:Int))) (first|(with_reducible exact⟨az,e0,e1,e2,e3,e4,e5⟩)|(exact cn.out _ ef.out)|(exact cn.out _ bk.out)|go_keep) (fail)
       have RK:=yH (Blk.drew (Blk.new wr [.string (T tx),.int .u64 (fA i:Int),.int .i64 (sx:Int),.int .i64 (nx:Int),.slice Av nv cv] 142))
       generalize (wr.alloc (.cells #[.string (T tx),.int .u64 (fA i:Int),.int .i64 (sx:Int),.int .i64 (nx:Int),.slice Av nv cv] 142)).drew=wk at*
       clear az e0 e1 e2 e3 e4 e5 d0 d1 d2 d3 d4 aR cn ef
       have hbw:=bk.out.size
       have cT:=yH (At.below cL bk.out)
       have eZ:=yH fun(W:World) (hW:Below wk.heap.size wk W)=>show(fun W:World=>W.cell? ⟨g,51,none⟩=some (.bool t.C.keyed)∧W.rangeAt g 0 (fileV t.C)∧W.cell? ⟨wr.heap.size,1,none⟩=some (.int .u64 (fA i:Int))∧W.cell? ⟨wr.heap.size,0,none⟩=some (.string (T tx))) W from
        ⟨(At.below cT.out hW).st.st.cell (Mk.get_keyed _ _),Mk.file_range (At.below cT.out hW).st.st,(RK.out.below hW RK.out.lt).cell (i:=1) rfl,(RK.out.below hW RK.out.lt).cell (i:=0) rfl⟩
       have kk:=aq.out.size
       have jw:=yH fun(W W0:World) (hW:Below wk.heap.size wk W0) (hg:W0.grownBy W (ownB A9))=>show(fun W:World=>W.cell? ⟨g,51,none⟩=some (.bool t.C.keyed)∧W.rangeAt g 0 (fileV t.C)∧W.cell? ⟨wr.heap.size,1,none⟩=some (.int .u64 (fA i:Int))∧W.cell? ⟨wr.heap.size,0,none⟩=some (.string (T tx))) W from by
        have fC: ∀j',ownB A9=some j'→wA.heap.size≤j'∧j'<wr.heap.size:=OwnE.ltB cI.out
        have iI:=(At.below cT.out hW).st.st
        have j9:g<wA.heap.size:=(At.lt b8.out g (.inl rfl)).2
        have E:Blk W g _ 126:=(hg.block g iI.lt (fun e=>by have:=(fC g e.symm).1;omega)).trans iI
        have ix:=RK.out.below hW RK.out.lt
        have h2:Blk W wr.heap.size _ 142:=(hg.block wr.heap.size ix.lt (fun e=>by have:=(fC _ e.symm).2;omega)).trans ix
        exact⟨E.cell (Mk.get_keyed _ _),Mk.file_range E,h2.cell (i:=1) rfl,h2.cell (i:=0) rfl⟩
       obtain⟨ns,dQ⟩: ∃ns,tx.length=ns:=⟨_,rfl⟩
       have HS:=yH dQ
       clear dQ
       have HO:=yH fun(W:World) (c:Nat) (h:Bytes W (some ⟨wk.heap.size,0,none⟩) tx)=>aFO t.C.keyed t.C.F _ tx ns c W ay.out.F h HS.out (by rw[←HS.out];omega)
       rw[show ofS t.C.keyed (idL t.C.F) tx=hA i from jI.out.symm]at HO
       obtain⟨kh,mk,eA⟩:=aBL tx hG
       have cQ:=fun w=>(eA w).1
       simp only[HS.out]at cQ
       have aM:=yH ((eA wk.drew).2.1 wk.heap.size rfl)
       have gN:=yH (((yB wk.heap.size wk).drew).trans (eA wk.drew).2.2.below)
       clear eA
       have gj:=Tryz.underlying61
       have jE:(Tryz.prog.info? 61).map (·.size)=some (fileV t.C).length:=by kernel_rfl
       go_upto_region 23 with fail
       refine wp_region_noPanic ?_
       refine wp_region_held_drew (S:=fun W:World=>W.cell? ⟨g,51,none⟩=some (.bool t.C.keyed)∧W.rangeAt g 0 (fileV t.C)∧W.cell? ⟨wr.heap.size,1,none⟩=some (.int .u64 (fA i:Int))∧W.cell? ⟨wr.heap.size,0,none⟩=some (.string (T tx))) (by kernel_rfl) (by exact eZ.out _ (yB _ _).drew) (fun hHeld=>?_)
       refine tk (i:=0) (oi:=⟨some 123,_,_,_,_,_⟩) (v:=?_) rfl (Or.inl ⟨by rfl,?_⟩) ?_
       rotate_left
       ·intro W d;go_simp;try (with_reducible rfl)
       try simp only[Act.put,sA,sZ,sS]
       refine tk (i:=1) (oi:=⟨some 124,_,_,_,_,_⟩) (v:=?_) rfl (Or.inl ⟨by rfl,?_⟩) ?_
       rotate_left
       ·intro W d;go_simp;try (with_reducible rfl)
       try simp only[Act.put,sA,sZ,sS]
       refine tk (i:=2) (oi:=⟨some 125,_,_,_,_,_⟩) (v:=?_) rfl (Or.inl ⟨by rfl,?_⟩) ?_
       rotate_left
       ·intro W d;have bC:=d.2.2.1;go_simp;try (with_reducible rfl)
       try simp only[Act.put,sA,sZ,sS]
       refine tk (i:=3) (oi:=⟨some 126,_,_,_,_,_⟩) (v:=?_) rfl (Or.inl ⟨by rfl,?_⟩) ?_
       rotate_left
       ·intro W d;go_simp;try (with_reducible rfl)
       try simp only[Act.put,sA,sZ,sS]
       refine tk (i:=4) (oi:=⟨some 127,_,_,_,_,_⟩) (v:=?_) rfl (Or.inl ⟨by rfl,?_⟩) ?_
       rotate_left
       ·intro W d;go_simp;try (with_reducible rfl)
       try simp only[Act.put,sA,sZ,sS]
       refine tk (i:=5) (oi:=⟨some 128,_,_,_,_,_⟩) (v:=?_) rfl (Or.inl ⟨by rfl,?_⟩) ?_
       rotate_left
       ·intro W d;go_simp;try (with_reducible rfl)
       try simp only[Act.put,sA,sZ,sS]
       refine tk (i:=6) (oi:=⟨some 129,_,_,_,_,_⟩) (v:=?_) rfl (Or.inl ⟨by rfl,?_⟩) ?_
       rotate_left
       ·intro W d;go_simp;try (with_reducible rfl)
       try simp only[Act.put,sA,sZ,sS]
       refine tk (i:=7) (oi:=⟨some 130,_,_,_,_,_⟩) (v:=?_) rfl (Or.inl ⟨by rfl,?_⟩) ?_
       rotate_left
       ·intro W d;have bC:=d.1;go_simp;try (with_reducible rfl)
       try simp only[Act.put,sA,sZ,sS]
       refine tk (i:=8) (oi:=⟨some 131,_,_,_,_,_⟩) (v:=?_) rfl (Or.inl ⟨by rfl,?_⟩) ?_
       rotate_left
       ·intro W d;go_simp;try (with_reducible rfl)
       try simp only[Act.put,sA,sZ,sS]
       refine tk (i:=9) (oi:=⟨some 132,_,_,_,_,_⟩) (v:=?_) rfl (Or.inl ⟨by rfl,?_⟩) ?_
       rotate_left
       ·intro W d;go_simp;try (with_reducible rfl)
       try simp only[Act.put,sA,sZ,sS]
       refine tk (i:=10) (oi:=⟨some 133,_,_,_,_,_⟩) (v:=?_) rfl (Or.inl ⟨by rfl,?_⟩) ?_
       rotate_left
       ·intro W d;go_simp;try (with_reducible rfl)
       try simp only[Act.put,sA,sZ,sS]
       refine tk (i:=11) (oi:=⟨some 134,_,_,_,_,_⟩) (v:=?_) rfl (Or.inl ⟨by rfl,?_⟩) ?_
       rotate_left
       ·intro W d;go_simp;try (with_reducible rfl)
       try simp only[Act.put,sA,sZ,sS]
       refine tk (i:=12) (oi:=⟨some 135,_,_,_,_,_⟩) rfl (yieldsIf_load_mid (by rfl) _ _ rfl _ _ rfl _ _ (fun _ h=>h.2.1) gj rfl jE) ?_
       try simp only[Act.put,sA,sZ,sS]
       refine tk (i:=13) (oi:=⟨some 136,_,_,_,_,_⟩) (v:=?_) rfl (Or.inl ⟨by rfl,?_⟩) ?_
       rotate_left
       ·intro W d;go_simp;try (with_reducible rfl)
       try simp only[Act.put,sA,sZ,sS]
       refine tk (i:=14) (oi:=⟨some 137,_,_,_,_,_⟩) (v:=?_) rfl (Or.inl ⟨by rfl,?_⟩) ?_
       rotate_left
       ·intro W d;have bC:=d.2.2.2;go_simp;try (with_reducible rfl)
       try simp only[Act.put,sA,sZ,sS]
       refine wpAnyH_ready (rs:=[15]) (by kernel_rfl) (by simp) ?_
       refine AllReadyH.cons (o:=⟨some 138,_,_,_,_,_⟩) rfl (fun K n=>?_) AllReadyH.nil
       go_simp
       skip
       try go_wp2_with fail
       refine n.out _ _ (by exact eZ.out _ gN.out) (fun hHeld=>?_)
       clear n K
       try simp only[Act.put,sA,sZ,sS]
       refine wpAnyH_ready (rs:=[16]) (by kernel_rfl) (by simp) ?_
       refine AllReadyH.cons (o:=⟨some 139,_,_,_,_,_⟩) rfl (fun K n=>?_) AllReadyH.nil
       go_simp
       (refine(HO.out _ _ aM.out).mono ?_);rintro e wO ⟨rfl,hw⟩;have eh:=yH (gN.out.trans (hw.mono gN.out.size));clear hw
       try go_wp2_with fail
       refine n.out _ _ (by exact eZ.out _ eh.out) (fun hHeld=>?_)
       clear n K
       try simp only[Act.put,sA,sZ,sS]
       refine tk (i:=17) (oi:=⟨some 140,_,_,_,_,_⟩) (v:=?_) rfl (Or.inl ⟨by rfl,?_⟩) ?_
       rotate_left
       ·intro W d;go_simp;try (with_reducible rfl)
       try simp only[Act.put,sA,sZ,sS]
       refine wpAnyH_ready (rs:=[18]) (by kernel_rfl) (by simp) ?_
       refine AllReadyH.cons (o:=⟨some 141,_,_,_,_,_⟩) rfl (fun K n=>?_) AllReadyH.nil
       go_simp
       skip
       try go_wp2_with fail
       refine n.out _ _ (by exact eZ.out _ (eh.out.alloc eh.out.size _)) (fun hHeld=>?_)
       clear n K
       try simp only[Act.put,sA,sZ,sS]
       refine wpAnyH_ready (rs:=[19]) (by kernel_rfl) (by simp) ?_
       refine AllReadyH.cons (o:=⟨some 142,_,_,_,_,_⟩) rfl (fun K n=>?_) AllReadyH.nil
       have bO:=eh.out.alloc eh.out.size (.cells #[.int .u64 (fA i:Int),.int .u64 (hA i)] 145)
       refine aAn (o:=⟨some 142,_,_,_,_,_⟩) aQr rfl (.tmp 123) (.tmp 141) rfl wA.heap.size A9 i c9 (itv (fun i=>(fA i:Int)) hA i) rfl (cI.out.kept (bk.out.trans (bO.mono bk.out.size)) (yR _)) (some ⟨wO.heap.size,0,none⟩) 1 1 [.int .u64 (fA i:Int),.int .u64 (hA i)] rfl (i+1) rfl rfl (fun q' u d8=>⟨_,rfl,Blk.news (Blk.new wO _ 145) q' u d8⟩) (by simp[Value.oneCell']) (by omega) (by omega) (by unfold maxLen;omega) ?_
       intro hv hT w10 fv cf g0
       have hV:=yH (show OwnE 145 2 w10 wA.heap.size hv (i+1) hT (itv (fun i=>(fA i:Int)) hA (i+1))from by rw[aFx];exact fv)
       have hC:=yH (show Below wA.heap.size wA w10 from(aq.out.trans ((bk.out.trans (bO.mono bk.out.size)).mono aq.out.size)).trans (below_grown cf (by have:=aq.out.size;have:=bk.out.size;have:=bO.size;omega) (fun q' d8=>(OwnE.ltB cI.out q' d8).1)))
       have cx:=jw.out w10 _ bO cf
       clear fv cf g0 bO
       refine n.out _ _ cx (fun hHeld=>?_)
       clear n K
       try simp only[Act.put,sA,sZ,sS]
       refine tk (i:=20) (oi:=⟨some 15,_,_,_,_,_⟩) (v:=?_) rfl (Or.inl ⟨by rfl,?_⟩) ?_
       rotate_left
       ·intro W d;go_simp;try (with_reducible rfl)
       try simp only[Act.put,sA,sZ,sS]
       refine wpAnyH_done (by kernel_rfl) ?_ _
       refine NoPanic.normal ?_
       try go_wp2_with fail
       go_roundw
       case rel=>exact⟨i+1,hv,hT,by omega,by go_num,rfl,hV,hC⟩
       case measure=>simp[intOf];omega
      ·obtain rfl:i=k:=by omega
       rename World=>wB
       have eO:=yH (At.below b8.out aq.out)
       have am:=yH (ci.out.below aq.out)
       have cq:=yH (cA.out.below aq.out)
       have b9:=yH (dR.out.below aq.out)
       have bj:=yH (bZ.out.below aq.out)
       have gO:=yH fun(j:Nat)=>show 0≤hA j∧hA j≤18446744073709551615 from by rw[di.out];exact aF5 _ _ _
       have gr:=yH (own_in2 cI.out (fun j hj=>⟨by omega,by
        have E:=e6.out j hj
        have h2:=(ay.out.dat _ (eL.out _ E)).1
        rw[cX.out]
        omega⟩) (fun j _=>gO.out j))
       have fk:=cZ.out
       have cS:=yH (show Blk wB w.heap.size (idE K) 61 from(am.out.kept.block _ (yL R1.out.lt ar.out.size) (fun hf=>absurd (bN _ hf) (Nat.lt_irrefl _))).trans ((ar.out.block _ R1.out.lt).trans R1.out))
       have iq:t.h.N 9=s9:=et.out.n9.trans aG.out
       have cE:=yH (aDE B g q.bb q.cb q.S t wB eO.out.st)
       rw[iq]at cE
       have ff:s9+1≤18446744073709551615:=by have:=HT.out;omega
       have jH:IntKind.u64.wrap (s9+1)=s9+1:=by rw[IntKind.wrap_u64];omega
       obtain⟨sq,jk⟩: ∃x,s9+1=x:=⟨_,rfl⟩
       have dE:=yH jk
       go_upto_region 25 with(first|(go_at_call 26;(refine cE.out.mono ?_);rintro e w' ⟨rfl,rfl⟩)|fail)
       have hZ:0≤sq∧sq≤18446744073709551615:=by omega
       clear jH iq
       obtain⟨eH,cz⟩: ∃x,x=xr (L.map fun q=>pay q.1 q.2):=⟨_,rfl⟩
       have eE:=yH (aM3 w2.heap.size i c3 g q A3 xs _ wB.drew (OwnE.drew b9.out.own) (bj.out.below (yB _ _).drew) (by omega) (fun l hl=>by
        obtain⟨q',d8,rfl⟩:=List.mem_map.1 hl
        have E:=bW.out q' d8
        rw[Fa.pay_len]
        omega))
       rw[←cz]at eE
       have he:(0:Int)≤(eH:Nat)∧((eH:Nat):Int)≤18446744073709551615:=by have:=aPi (L.map fun q=>pay q.1 q.2);rw[←cz]at this;omega
       have gg:=yH cz
       clear cz
       have cY:=yH (aFc sq real mono K (eH:Int) A9 i c9 (fun j=>(fA j:Int)) hA wB.drew (gr.out.keep (yB _ _).drew) (by omega) HK.out hZ hr hm he)
       have bY:objB 3 (entB sq real mono K (eH:Int) (prs (fun j=>(fA j:Int)) hA i))=Mk.eobj t who (L.map fun q=>pay q.1 q.2) sq real mono K:=by
        unfold Mk.eobj
        rw[←gg.out,show(fun i=>((Mk.kn t (who.getD i 0)).at_:Int))=(fun j=>(fA j:Int))from funext fun j=>by rw[cX.out],show(fun i=>Mk.sum t (Mk.kn t (who.getD i 0)).text)=hA from funext fun j=>(di.out j).symm,aZ.out]
       have iM:(Mk.eobj t who (L.map fun q=>pay q.1 q.2) sq real mono K).length=16+(48+16*i):=by
        rw[←bY,aBj,aDC,show padN (48+16*i)=0 by unfold padN;omega]
        omega
       rw[bY,show padN (48+16*i)=0 by unfold padN;omega]at cY
       unfold Owned at cY
       obtain⟨eo,gP⟩: ∃x,x=Mk.eobj t who (L.map fun q=>pay q.1 q.2) sq real mono K:=⟨_,rfl⟩
       rw[←gP]at cY iM
       have ja:=yH gP
       clear bY gP
       have jO:t.b.length≤42400:=by have:=ew.out;omega
       have fZ: ∀j,q.foot g j→j≠w.heap.size:=fun j hj e=>by
        rcases am.out.foot j hj with E|E
        ·have:=bN j E;omega
        ·have:=ar.out.size;have:=R1.out.lt;omega
       have dP:=yH fun(W:World) (hW:Below wB.heap.size wB W)=>show W.rangeAt w.heap.size 0 (idE K)from aGu (cS.out.below hW cS.out.lt)
       have dx:=yH fun(W W':World) (hW:Below wB.drew.heap.size wB.drew W) (p':Pl) (hP:Path g q W p' W')=>show W'.rangeAt w.heap.size 0 (idE K)from by
        have E:=cS.out.below ((yB wB.heap.size wB).drew.trans hW) cS.out.lt
        exact aGu (show Blk W' w.heap.size (idE K) 61 from(hP.kept.block _ E.lt (fun hf=>fZ _ hf rfl)).trans E)
       have gj:=Tryz.underlying61
       have idJ:(Tryz.prog.info? 61).map (·.size)=some (idE K).length:=by kernel_rfl
       refine wp_region_noPanic ?_
       refine wp_region_held_drew (S:=fun W:World=>W.rangeAt w.heap.size 0 (idE K)) (by kernel_rfl) (by exact dP.out _ (yB _ _).drew) (fun hHeld=>?_)
       refine tk (i:=0) (oi:=⟨some 146,_,_,_,_,_⟩) (v:=?_) rfl (Or.inl ⟨by rfl,?_⟩) ?_
       rotate_left
       ·intro W d;go_simp;try (with_reducible rfl)
       try simp only[Act.put,sA,sZ,sS]
       refine tk (i:=1) (oi:=⟨some 147,_,_,_,_,_⟩) (v:=?_) rfl (Or.inl ⟨by rfl,?_⟩) ?_
       rotate_left
       ·intro W d;go_simp;try (with_reducible rfl)
       try simp only[Act.put,sA,sZ,sS]
       refine tk (i:=2) (oi:=⟨some 148,_,_,_,_,_⟩) (v:=?_) rfl (Or.inl ⟨by rfl,?_⟩) ?_
       rotate_left
       ·intro W d;go_simp;try (with_reducible rfl)
       try simp only[Act.put,sA,sZ,sS]
       refine tk (i:=3) (oi:=⟨some 149,_,_,_,_,_⟩) (v:=?_) rfl (Or.inl ⟨by rfl,?_⟩) ?_
       rotate_left
       ·intro W d;go_simp;try (with_reducible rfl)
       try simp only[Act.put,sA,sZ,sS]
       refine tk (i:=4) (oi:=⟨some 150,_,_,_,_,_⟩) rfl (yieldsIf_load_mid (by rfl) _ _ rfl _ _ rfl _ _ (fun _ h=>h) gj rfl idJ) ?_
       try simp only[Act.put,sA,sZ,sS]
       refine tk (i:=5) (oi:=⟨some 151,_,_,_,_,_⟩) (v:=?_) rfl (Or.inl ⟨by rfl,?_⟩) ?_
       rotate_left
       ·intro W d;go_simp;try (with_reducible rfl)
       try simp only[Act.put,sA,sZ,sS]
       refine tk (i:=7) (oi:=⟨some 153,_,_,_,_,_⟩) (v:=?_) rfl (Or.inl ⟨by rfl,?_⟩) ?_
       rotate_left
       ·intro W d;go_simp;try (with_reducible rfl)
       try simp only[Act.put,sA,sZ,sS]
       refine wpAnyH_ready (rs:=[6]) (by kernel_rfl) (by simp) ?_
       refine AllReadyH.cons (o:=⟨some 152,_,_,_,_,_⟩) rfl (fun K n=>?_) AllReadyH.nil
       go_simp
       (refine(eE.out).mono ?_);rintro e wX ⟨rfl,rfl⟩
       try go_wp2_with fail
       refine n.out _ _ (by exact dP.out _ (yB _ _).drew) (fun hHeld=>?_)
       clear n K
       try simp only[Act.put,sA,sZ,sS]
       refine tk (i:=8) (oi:=⟨some 154,_,_,_,_,_⟩) (v:=?_) rfl (Or.inl ⟨by rfl,?_⟩) ?_
       rotate_left
       ·intro W d;go_simp;try (with_reducible rfl)
       try simp only[Act.put,sA,sZ,sS]
       refine wpAnyH_ready (rs:=[9]) (by kernel_rfl) (by simp) ?_
       refine AllReadyH.cons (o:=⟨some 155,_,_,_,_,_⟩) rfl (fun K n=>?_) AllReadyH.nil
       go_simp
       (refine(cY.out).mono ?_);rintro e w4 ⟨A4,c4,rfl,jg,gM⟩;have eB:=yH jg;have aW:=yH gM;have cH:=yH (At.below (At.drew eO.out) gM);clear jg gM
       try go_wp2_with fail
       refine n.out _ _ (by exact dP.out _ ((yB _ _).drew.trans aW.out)) (fun hHeld=>?_)
       clear n K
       try simp only[Act.put,sA,sZ,sS]
       refine wpAnyH_ready (rs:=[10]) (by kernel_rfl) (by simp) ?_
       refine AllReadyH.cons (o:=⟨some 156,_,_,_,_,_⟩) rfl (fun K n=>?_) AllReadyH.nil
       go_simp
       (refine(aCc A4 _ c4 _ w4 cH.out eB.out.bytes eB.out.2.1 (by have:=ay.out.len;omega) (by omega) (by have:=ay.out.n7;omega)).mono ?_);rintro e w5 ⟨rfl,b5,iL,hc,gL⟩;have HA5:=yH hc;have fd:=yH gL;have fT:=dx.out w4 w5 aW.out _ gL;clear hc gL
       try go_wp2_with fail
       refine n.out _ _ (by exact fT) (fun hHeld=>?_)
       clear n K
       try simp only[Act.put,sA,sZ,sS]
       refine tk (i:=11) (oi:=⟨some 24,_,_,_,_,_⟩) (v:=?_) rfl (Or.inl ⟨by rfl,?_⟩) ?_
       rotate_left
       ·intro W d;go_simp;try (with_reducible rfl)
       try simp only[Act.put,sA,sZ,sS]
       refine wpAnyH_done (by kernel_rfl) ?_ _
       refine NoPanic.normal ?_
       obtain⟨n8,fU,fG,jN⟩:=ay.out.mn
       have bF:w5.cell? ⟨g,127,none⟩=some (.int .u64 (n8:Int)):=(At.cN HA5.out 8 127 (by decide) rfl).trans (congrArg (fun x=>some (Value.int .u64 x)) fU)
       have jQ:n8≤42400:=by omega
       have I2:=aA7 ay.out eo (by omega) (by omega)
       have ke:=aAM t eo
       obtain⟨Am,nm,cm,eM,jl,_⟩:=id HA5.out.ma
       have eM:q.M= .slice Am nm cm:=eM
       have bQ:w5.cell? ⟨g,146,none⟩=some (.slice Am nm cm):=eM▸At.cm (p:={q with bb:=b5,cb:=iL}) HA5.out
       have dI:=yH (show Arr w5 (Pl.away {q with bb:=b5,cb:=iL} B g) (.slice Am nm cm) t.main from eM▸HA5.out.ma)
       have ea:=yH (fG.mono (show t.b.length≤(t.object eo).b.length by omega))
       have cO:=yH (link_any Am nm cm t.main n8 176 t.b.length w5 HA5.out (by have:=I2.len;omega) (by have:=I2.n7;omega) (by have:=I2.n18;omega) dI.out ea.out (by have:=ay.out.len;omega) (by omega) (by omega) (by omega))
       obtain⟨k1,k2,k3,k4,k5,k6,k7,k8,k9,eU,fY,gs⟩:=aDD I2 (fr:=176) t.b.length ea.out (by have:=ay.out.len;omega)
       have cR:=yH (show Mk.linked (t.object eo) t.b.length n8={(Mk.link (t.object eo) t.main n8 176 t.b.length).1 with main:=(Mk.link (t.object eo) t.main n8 176 t.b.length).2.1,h:={setN (Mk.link (t.object eo) t.main n8 176 t.b.length).1.h 11 (((Mk.link (t.object eo) t.main n8 176 t.b.length).2.1.getD 0 0:Nat):Int)with ta:=(((Mk.link (t.object eo) t.main n8 176 t.b.length).2.1.getLastD 0:Nat):Int),ti:=(((Mk.link (t.object eo) t.main n8 176 t.b.length).2.2:Nat):Int)}}from rfl)
       have bP:=yH fU
       clear fU fG eM jl
       rcases bs:Mk.link (t.object eo) t.main n8 176 t.b.length with⟨m6,aa,ad⟩
       rw[bs]at k1 k2 k3 k4 k5 k6 k7 k8 k9 eU fY gs cO cR
       dsimp only at k1 k2 k3 k4 k5 k6 k7 k8 k9 eU fY gs cR
       have iy:=yH k1
       have d7:=yH k2
       have ik:=yH k5
       have ib:=yH k8
       have cx:=yH eU
       have ah:=yH ((am.out.drew.below aW.out).trans fd.out)
       have gU:=yH (((Path.refl g q wB).drew.below aW.out).trans fd.out)
       unfold Linked at cO
       clear k1 k2 k5 k6 k7 k8 k9 eU fY bs
       go_upto_region 28 with fail
       go_upto_region 29 with(first
        |(go_at_call 71;(refine cO.out.mono ?_;rintro e w6 ⟨_,p6,rfl,⟨A6,n6,c6,rfl,hl6,iR⟩,b4,d5⟩;have dw:=yH (show Arr w6 (Pl.away p6 B g) (.slice A6 n6 c6) aa from⟨A6,n6,c6,rfl,hl6,iR⟩);have gt:=yH b4;have eS:=yH d5;have ij:=At.cm b4;have iJ:=At.fz b4 146;clear b4 d5 iR))
        |fail)
       have fc:=At.setM gt.out (.slice A6 n6 c6) aa dw.out
       have cs:=yH fc.1
       have gw:=yH (ah.out.trans (eS.out.trans fc.2))
       have fR:=yH (gU.out.trans (eS.out.trans fc.2))
       clear fc ij iJ bF bQ
       generalize w6.setCell ⟨g,146,none⟩ (.slice A6 n6 c6)=w7 at*
       have gZ:0<aa.length:=by
        rcases Nat.eq_zero_or_pos aa.length with h|h
        ·have E:=d7.out.le
         rw[h]at E
         rw[show rooms 0=0 from rfl]at E
         omega
        ·exact h
       have dV:=cs.out.ma
       obtain⟨bA,hbA,iS⟩:=aF9 dV 0 (by omega) (aa.getD 0 0) rfl
       obtain⟨aF,rfl⟩: ∃n',n6=n'+1:=⟨n6-1,by omega⟩
       obtain⟨j0,a2,dU⟩:=aF9 dV aF (by omega) (aa.getLastD 0) (aCB aa aF hl6)
       rw[hbA]at a2
       injection a2 with a2
       injection a2 with a2
       subst a2
       subst hbA
       have jv:aa.getLastD 0≤100000:=by
        have E:=aA6 d7.out (List.ne_nil_of_length_pos gZ)
        omega
       have eI:=yH hl6
       obtain⟨f6,gp⟩: ∃x,x=aa.getD 0 0:=⟨_,rfl⟩
       obtain⟨l6,dK⟩: ∃x,x=aa.getLastD 0:=⟨_,rfl⟩
       rw[←gp]at iS
       rw[←dK]at dU jv
       have fX:=yH gp
       have cw:=yH dK
       clear gp dK hl6 dV
       have bQ:w7.cell? ⟨g,146,none⟩=some (.slice (some ⟨bA,0,none⟩) (aF+1) c6):=At.cm cs.out
       have iP:=At.cN cs.out 11 130 (by decide) rfl
       have hp:=At.fz cs.out 130
       go_region
       have bg:=yH (At.drew (At.setN cs.out 11 130 (by decide) rfl (f6:Int)))
       have gf:=yH ((gw.out.set 130 (.int .u64 (f6:Int))).drew)
       have gT:=yH ((fR.out.set 130 (.int .u64 (f6:Int))).drew)
       generalize (w7.setCell ⟨g,130,none⟩ (.int .u64 (f6:Int))).drew=w8 at*
       clear bQ iP hp iS dU
       have ft:aa.length=aF+1:=eI.out
       obtain⟨kg,bx,dU⟩:=aF9 bg.out.ma aF (by omega) (aa.getLastD 0) (aCB aa aF ft)
       injection bx with bx
       injection bx with bx
       subst bx
       rw[←cw.out]at dU
       clear ft
       have bQ:w8.cell? ⟨g,146,none⟩=some (.slice (some ⟨bA,0,none⟩) (aF+1) c6):=At.cm bg.out
       have ie:=At.cta bg.out
       have jb:=At.fz bg.out 139
       have iZ:=At.cti bg.out
       have iQ:=At.fz bg.out 140
       have jY:ad≤256:=gs
       have jX:aF≤25001:=by have E:=aGe d7.out (by omega);have h2:=eI.out;omega
       have js:IntKind.i64.wrap (aF:Int)=(aF:Int):=by rw[IntKind.wrap_i64];omega
       have bz:IntKind.u32.wrap (l6:Int)=(l6:Int):=by rw[IntKind.wrap_u32];omega
       have jF:IntKind.u32.wrap (ad:Int)=(ad:Int):=by rw[IntKind.wrap_u32];omega
       go_wp2_with fail
       go_region
       have ez:=yH (show At (((w8.setCell ⟨g,139,none⟩ (.int .u32 (l6:Int))).setCell ⟨g,140,none⟩ (.int .u32 (ad:Int))).drew) B g {p6 with M:= .slice (some ⟨bA,0,none⟩) (aF+1) c6} (Mk.linked (t.object eo) t.b.length n8)from by
        have E:=At.drew (At.setTi (At.setTa bg.out (l6:Int)) (ad:Int))
        rw[cR.out,←fX.out,←cw.out]
        exact E)
       have ey:=yH (((gf.out.set 139 (.int .u32 (l6:Int))).set 140 (.int .u32 (ad:Int))).drew)
       have eV:=yH (((gT.out.set 139 (.int .u32 (l6:Int))).set 140 (.int .u32 (ad:Int))).drew)
       generalize ((w8.setCell ⟨g,139,none⟩ (.int .u32 (l6:Int))).setCell ⟨g,140,none⟩ (.int .u32 (ad:Int))).drew=w9 at*
       clear bQ ie iZ jb iQ dU js bz jF
       obtain⟨g1,g2,g3,g4,g5,g6,g7⟩:=aBx I2 t.b.length n8 bP.out ea.out (by omega) (by have:=ay.out.len;omega)
       obtain⟨q9,iD⟩: ∃y,y=({p6 with M:= .slice (some ⟨bA,0,none⟩) (aF+1) c6}:Pl):=⟨_,rfl⟩
       rw[←iD]at ez ey eV
       clear iD
       generalize hu:Mk.linked (t.object eo) t.b.length n8=mL at*
       have jc:=yH hu
       clear hu
       have i9:InvM t.b.length 0 mL:=⟨g1,fun k' hk'=>by rw[g4]at hk';exact(ay.out.dat k' hk').2.2.2.2,by omega⟩
       have fO:=yH (aAL i9 t.b.length who (fun y hy=>by rw[g4];exact cl.out y hy) (by rw[aZ.out];exact fM))
       have ia:=yH g4
       have a5:=yH g5
       have g9:=yH g7
       have jS:mL.b.length≤45100:=by omega
       have cg:=yH (cq.out.path eV.out)
       clear g1 g4 g5 g6 g7 I2
       go_wp2
       go_loopw [27] (fun a27 wr=> ∃(j:Nat) (Z:Pl),j≤i∧a27= .int .i64 (j:Int)∧Hid (At wr B g Z (Mk.markAll t.b.length mL (who.take j)))∧Hid (Path g p w2 Z wr)∧Hid (Side 3 1 wr g Z w2.heap.size A2 i c2 (iv who))) (fun a _=>i-(intOf a).toNat)
       case atStart=>exact⟨0,q9,Nat.zero_le _,rfl,yH (by rw[List.take_zero];exact ez.out),ey,cg⟩
       case round=>
        obtain⟨j,Z,kb,rfl,aH,ac,R⟩:=hrel
        by_cases bK:j<i
        ·have eP:j<who.length:=by rw[aZ.out];exact bK
         try clear cC
         try clear eF
         try clear fn
         try clear ci
         try clear cA
         try clear dR
         try clear bZ
         try clear ew
         try clear cX
         try clear di
         try clear eL
         try clear e6
         try clear HNd
         try clear a0
         try clear bS
         try clear cI
         try clear aq
         try clear eO
         try clear am
         try clear cq
         try clear b9
         try clear bj
         try clear gO
         try clear gr
         try clear fk
         try clear cS
         try clear cE
         try clear eE
         try clear gg
         try clear cY
         try clear dP
         try clear dx
         try clear eB
         try clear aW
         try clear cH
         try clear HA5
         try clear fd
         try clear fT
         try clear dI
         try clear ea
         try clear cO
         try clear iy
         try clear d7
         try clear ik
         try clear ib
         try clear cx
         try clear ah
         try clear gU
         try clear dw
         try clear gt
         try clear eS
         try clear cs
         try clear gw
         try clear fR
         try clear eI
         try clear fX
         try clear cw
         try clear bg
         try clear gf
         try clear gT
         try clear ez
         try clear ey
         try clear eV
         try clear cg
         try clear b8
         try clear bW
         try clear ej
         try clear cR
         try clear gX
         try clear ja
         try clear jc
         try clear dE
         try clear aG
         try clear HT
         try clear bU
         try clear bP
         try clear cZ
         try clear eu
         try clear eG
         try clear dY
         try clear a6
         try clear HI
         try clear fZ
         obtain⟨u1,u2,u3,u4,u5,u6,u7⟩:=fO.out j (Nat.le_of_lt eP)
         have ce:=yH (aBk t.b.length mL who j eP)
         have gv:who.getD j 0=who[j]:=by rw[yD,yG eP];rfl
         have aS:who[j]<(Mk.markAll t.b.length mL (who.take j)).datas.length:=by rw[u4,ia.out];exact cl.out _ (List.getElem_mem _)
         have jo:(Mk.markAll t.b.length mL (who.take j)).b.length≤80000:=by omega
         clear u2 u3 u4 u5 u6 u7
         have hU:=aEf R.out.own j eP
         obtain⟨bw,dc,aR⟩:=hU
         subst dc
         rw[gv]at aR
         obtain⟨x,gE⟩: ∃y,y=who[j]:=⟨_,rfl⟩
         have ir:=yH (gv.trans gE.symm)
         rw[←gE]at aR aS ce
         clear gE gv
         generalize Mk.markAll t.b.length mL (who.take j)=V at*
         have hR:=yH aS
         obtain⟨E,h2,h3,h4,h5,h6,h7,h8⟩:=aCh u1 t.b.length x aS
         obtain⟨e1,e2,e3,e4,e5⟩:=u1.inv.dat _ (show Mk.kn V x∈(Mk.bump V).datas from aGm aS)
         have e1:(Mk.kn V x).at_+64≤V.b.length:=e1
         have e4:Chain V.b.length (Mk.kn V x).arrays ((Mk.kn V x).count-1):=e4
         have jR:=u1.cnt _ (aGm aS)
         have a4:Z.dl.length=V.datas.length:=by rw[←aH.out.dm,List.length_map]
         obtain⟨Y,fD,bI,d0,d1,d2,d3,d4⟩:=aBp aH.out.dr x (by rw[a4];exact aS)
         have dB:=aH.out.da _ (List.getElem_mem (by rw[a4];exact aS:x<Z.dl.length))
         rw[kn_at aH.out.dm _ (by rw[a4];exact aS)]at d0 d1 d2 d3 dB
         obtain⟨Av,nv,cv,ev,_,_⟩:=id dB
         rw[ev]at d4 dB
         have jC:=yH dB
         obtain⟨aJ,bu⟩: ∃y,Z.nd=y:=⟨_,rfl⟩
         have az:wr.drew.cell? ⟨g,144,none⟩=some (.slice (some ⟨Y,0,none⟩) aJ Z.cd):=by rw[←fD,←bu];exact At.cd (At.drew aH.out)
         have kd:x<aJ:=by rw[←bu,←aAy aH.out.dr,a4];exact aS
         have jB:aJ≤200000:=by
          have h9:=u1.inv.dn
          have h9:V.datas.length≤V.b.length:=h9
          rw[←bu,←aAy aH.out.dr,a4]
          omega
         clear bu a4 dB ev fD
         have hS:Mk.kn V x=⟨(Mk.kn V x).text,(Mk.kn V x).at_,(Mk.kn V x).slot,(Mk.kn V x).count,(Mk.kn V x).arrays⟩:=rfl
         have iV:=yH hS
         have eR:Mk.hitched t.b.length V x=if(Mk.kn V x).count=0 then({V with b:=put8 V.b ((Mk.kn V x).at_+40) (t.b.length:Nat)},(Mk.kn V x).arrays)else((Mk.link V (Mk.kn V x).arrays ((Mk.kn V x).count-1) ((Mk.kn V x).at_+48) t.b.length).1,(Mk.link V (Mk.kn V x).arrays ((Mk.kn V x).count-1) ((Mk.kn V x).at_+48) t.b.length).2.1):=rfl
         clear hS
         generalize (Mk.kn V x).text=tx at*
         generalize (Mk.kn V x).at_=ax at*
         generalize (Mk.kn V x).slot=sx at*
         generalize (Mk.kn V x).count=nx at*
         generalize (Mk.kn V x).arrays=rx at*
         generalize fs:Mk.hitched t.b.length V x=jy at*
         obtain⟨aX,aV⟩:=jy
         have fE:=yH fs
         clear fs
         dsimp only at E h2 h3 h4 h5 h6 h7 h8
         obtain⟨X,hX⟩: ∃X,T tx=X:=⟨_,rfl⟩
         have hN:=yH hX
         rw[hX]at d0
         clear hX
         have dy:=yH (show nx≤200000 by omega)
         have f0:wr.drew.cell? ⟨Y,x*5,none⟩=some (.string X):=d0
         have f1:wr.drew.cell? ⟨Y,x*5+1,none⟩=some (.int .u64 (ax:Int)):=d1
         have f2:wr.drew.cell? ⟨Y,x*5+2,none⟩=some (.int .i64 (sx:Int)):=d2
         have f3:wr.drew.cell? ⟨Y,x*5+3,none⟩=some (.int .i64 (nx:Int)):=d3
         have f4:wr.drew.cell? ⟨Y,x*5+4,none⟩=some (.slice Av nv cv):=d4
         have f5:wr.drew.cell? ⟨bw,j,none⟩=some (.int .i64 (x:Int)):=aR
         have cn:=yH fun(W:World) (hW:Below wr.heap.size wr W)=>show W.cell? ⟨g,144,none⟩=some (.slice (some ⟨Y,0,none⟩) aJ Z.cd)∧W.cell? ⟨Y,x*5,none⟩=some (.string X)∧W.cell? ⟨Y,x*5+1,none⟩=some (.int .u64 (ax:Int))∧W.cell? ⟨Y,x*5+2,none⟩=some (.int .i64 (sx:Int))∧W.cell? ⟨Y,x*5+3,none⟩=some (.int .i64 (nx:Int))∧W.cell? ⟨Y,x*5+4,none⟩=some (.slice Av nv cv)∧W.cell? ⟨bw,j,none⟩=some (.int .i64 (x:Int))from
          ⟨(hW.cell (p:=⟨g,144,none⟩) aH.out.st.st.lt).trans az,(hW.cell (p:=⟨Y,x*5,none⟩) bI).trans d0,(hW.cell (p:=⟨Y,x*5+1,none⟩) bI).trans d1,(hW.cell (p:=⟨Y,x*5+2,none⟩) bI).trans d2,(hW.cell (p:=⟨Y,x*5+3,none⟩) bI).trans d3,(hW.cell (p:=⟨Y,x*5+4,none⟩) bI).trans d4,(hW.cell (p:=⟨bw,j,none⟩) (aAH aR)).trans aR⟩
         have ef:=yH (show Below wr.heap.size wr (wr.alloc (.cells #[.string {data:= #[]},.int .u64 0,.int .i64 0,.int .i64 0,.slice none 0 0] 142)).drew from((yB _ _).alloc (yR _) _).drew)
         have bk:=yH (show Below wr.heap.size wr (wr.alloc (.cells #[.string X,.int .u64 (ax:Int),.int .i64 (sx:Int),.int .i64 (nx:Int),.slice Av nv cv] 142)).drew from((yB _ _).alloc (yR _) _).drew)
         go_upto_region 34 with fail
         go_region_held3 (fun W=>W.cell? ⟨g,144,none⟩=some (.slice (some ⟨Y,0,none⟩) aJ Z.cd)∧W.cell? ⟨Y,x*5,none⟩=some (.string X)∧W.cell? ⟨Y,x*5+1,none⟩=some (.int .u64 (ax:Int))∧W.cell? ⟨Y,x*5+2,none⟩=some (.int .i64 (sx:Int))∧W.cell? ⟨Y,x*5+3,none⟩=some (.int .i64 (nx:Int))∧W.cell? ⟨Y,x*5+4,none⟩=some (.slice Av nv cv)∧W.cell? ⟨bw,j,none⟩=some (.int .i64 (x:Int))) (first|(with_reducible exact⟨az,f0,f1,f2,f3,f4,f5⟩)|(exact cn.out _ ef.out)|(exact cn.out _ bk.out)|go_keep) (fail)
         have RK:=yH (Blk.drew (Blk.new wr [.string X,.int .u64 (ax:Int),.int .i64 (sx:Int),.int .i64 (nx:Int),.slice Av nv cv] 142))
         generalize (wr.alloc (.cells #[.string X,.int .u64 (ax:Int),.int .i64 (sx:Int),.int .i64 (nx:Int),.slice Av nv cv] 142)).drew=wk at*
         obtain⟨A,eW⟩: ∃y,y=wr.heap.size:=⟨_,rfl⟩
         rw[←eW]at RK⊢
         have dO:=yH (show ∀k',Z.foot g k'→k'≠A from fun k' h e=>by have:=(At.lt aH.out k' h).2;omega)
         have ki:=yH (show w2.heap.size≤A by rw[eW];exact ac.out.kept.size)
         have gd:=yH eW
         have cT:=yH (At.below aH.out bk.out)
         have ka:=yH (ac.out.below bk.out)
         have dA:=yH (aAX jC.out (Path.of_below (g:=g) (p:=Z) bk.out))
         have jt:=yH (R.out.below bk.out)
         clear az f0 f1 f2 f3 f4 f5 d0 d1 d2 d3 d4 aR cn ef eW
         have k3:=RK.out.cell (i:=3) rfl
         have ip:=RK.out.cell (i:=1) rfl
         have k4:=RK.out.cell (i:=4) rfl
         have z4:=RK.out.frozen 4
         have jL:=dy.out
         have jW:ax≤100000:=by omega
         rcases Nat.eq_zero_or_pos nx with fb|fb
         ·have jm:((nx:Int)==0)=true:=by simp[fb]
          have hh:=eR
          rw[if_pos fb]at hh
          obtain⟨ep,bs⟩:=Prod.mk.inj hh
          have gH:=yH ep
          have fN:=yH bs
          clear hh eR fb ep bs
          go_upto_region 38 with(first
           |(go_at_call 72;(refine(aAW (ax+40) _ (by omega) _ _ cT.out (by omega) (by omega)).mono ?_);rintro e bR ⟨rfl,b4,d5⟩;have hs:=yH b4;have df:=yH d5;clear b4 d5)
           |fail)
          have em:=yH (show At bR B g Z aX from by rw[gH.out];exact hs.out)
          have dC:=yH (Path.trans (Path.of_below (g:=g) (p:=Z) bk.out) df.out)
          have a8:=yH (show ¬Z.foot g A from fun h=>dO.out A h rfl)
          have av:=yH (show Blk bR A [.string X,.int .u64 (ax:Int),.int .i64 (sx:Int),.int .i64 (nx:Int),.slice Av nv cv] 142 from(df.out.kept.block A RK.out.lt a8.out).trans RK.out)
          have b3:=yH (show Arr bR (Z.away B g) (.slice Av nv cv) aV from by rw[fN.out];exact aAX dA.out df.out)
          have ec:=yH (show aX.datas.length=V.datas.length from congrArg List.length h5)
          clear k3 ip k4 z4
          have an:=yH (av.out.set_ 3 (.int .i64 ((nx:Int)+1)))
          have dp:=yH (At.setK em.out av.out (a8.out) 3 (.int .i64 ((nx:Int)+1)))
          have eb:=yH (Path.side dC.out (KeptF.set1 bR A 3 (.int .i64 ((nx:Int)+1))) (fun k' E=>by rw[show k'=A from E,gd.out];exact yR _))
          have bm:=yH ((aCJ b3.out av.out).kept (KeptF.set1 bR A 3 (.int .i64 ((nx:Int)+1))) (fun b _ E h2=>E (.inr h2)) (fun b _ E h2=>E (.inl h2)))
          have r3:=av.out.cell (i:=3) rfl
          have gR:=av.out.frozen 3
          have r1:=av.out.cell (i:=1) rfl
          have v1:=an.out.cell (i:=1) rfl
          have v3:=an.out.cell (i:=3) rfl
          have iG:nx≤200000:=dy.out
          have ih:ax+64≤aX.b.length∧aX.b.length≤90000:=⟨by omega,by omega⟩
          go_upto_region 40 with(first
           |(go_at_call 72;(refine(aAW (ax+56) _ (by omega) _ _ dp.out (by omega) (by omega)).mono ?_);rintro e H ⟨rfl,dh,es⟩;have G:=yH dh;have aK:=yH es;clear dh es)
           |fail)
          have au:=yH (show Blk H A [.string X,.int .u64 (ax:Int),.int .i64 (sx:Int),.int .i64 ((nx:Int)+1),.slice Av nv cv] 142 from(aK.out.kept.block A an.out.lt a8.out).trans an.out)
          have cp:=yH (aAX bm.out aK.out)
          have aN:=yH (eb.out.trans aK.out)
          have af:x<Z.dl.length:=by
           have e:=congrArg List.length G.out.dm
           rw[List.length_map]at e
           have e:Z.dl.length=aX.datas.length:=e
           rw[e,ec.out]
           exact hR.out
          obtain⟨J,ab,hd,_,_,_,_,_⟩:=aBp (At.drew G.out).dr x af
          obtain⟨bd,aD⟩: ∃y,Z.nd=y:=⟨_,rfl⟩
          have s0:H.drew.cell? ⟨g,144,none⟩=some (.slice (some ⟨J,0,none⟩) bd Z.cd):=by rw[←ab,←aD];exact At.cd (At.drew G.out)
          have jj:x<bd:=by rw[←aD,←aAy G.out.dr];exact af
          clear aD
          obtain⟨ji,ae,bf⟩:=aEf (R.out.path aN.out).own j (by rw[aZ.out];exact bK)
          injection ae with ae
          injection ae with ae
          subst ae
          rw[ir.out]at bf
          have s1:H.drew.cell? ⟨bw,j,none⟩=some (.int .i64 (x:Int)):=bf
          have s2:H.drew.cell? ⟨A,0,none⟩=some (.string X):=au.out.cell (i:=0) rfl
          have s3:H.drew.cell? ⟨A,1,none⟩=some (.int .u64 (ax:Int)):=au.out.cell (i:=1) rfl
          have s4:H.drew.cell? ⟨A,2,none⟩=some (.int .i64 (sx:Int)):=au.out.cell (i:=2) rfl
          have s5:H.drew.cell? ⟨A,3,none⟩=some (.int .i64 ((nx:Int)+1)):=au.out.cell (i:=3) rfl
          have s6:H.drew.cell? ⟨A,4,none⟩=some (.slice Av nv cv):=au.out.cell (i:=4) rfl
          have bX:=yH (aGv (ab▸(At.drew G.out).dr) x (by rw[aAy G.out.dr]at af;exact af))
          have ei:knC ⟨tx,ax,sx,nx+1,aV⟩ (.slice Av nv cv)=[.string X,.int .u64 (ax:Int),.int .i64 (sx:Int),.int .i64 ((nx:Int)+1),.slice Av nv cv]:=by unfold knC;rw[hN.out];rfl
          have ba:=At.setD (At.drew G.out) x af J ab ⟨tx,ax,sx,nx+1,aV⟩ (.slice Av nv cv) (show Arr H.drew (Pl.away Z B g) _ aV from cp.out)
          rw[ei]at ba
          have er:=yH ba.1
          have bJ:=yH (aN.out.drew.trans ba.2)
          have bE:Z.foot g J:= .inr (.inr (.inl (by rw[ab];rfl)))
          have aG:=yH (show(fun W:World=>W.cell? ⟨g,144,none⟩=some (.slice (some ⟨J,0,none⟩) bd Z.cd)∧W.cell? ⟨bw,j,none⟩=some (.int .i64 (x:Int))∧W.cell? ⟨A,0,none⟩=some (.string X)∧W.cell? ⟨A,1,none⟩=some (.int .u64 (ax:Int))∧W.cell? ⟨A,2,none⟩=some (.int .i64 (sx:Int))∧W.cell? ⟨A,3,none⟩=some (.int .i64 ((nx:Int)+1))∧W.cell? ⟨A,4,none⟩=some (.slice Av nv cv)) (H.drew.setCells J (x*5) [.string X,.int .u64 (ax:Int),.int .i64 (sx:Int),.int .i64 ((nx:Int)+1),.slice Av nv cv])from by
           have al: ∀k',k'<H.heap.size→k'≠J→ ∀o,(H.drew.setCells J (x*5) [.string X,.int .u64 (ax:Int),.int .i64 (sx:Int),.int .i64 ((nx:Int)+1),.slice Av nv cv]).cell? ⟨k',o,none⟩=H.drew.cell? ⟨k',o,none⟩:=fun k' E h2 o=>World.cell?_setCells_out J _ _ _ _ (fun h3=>absurd h3 h2)
           have aO:A≠J:=fun e=>a8.out (e▸bE)
           have gb:g≠J:=fun e=>(G.out.dg J (by rw[ab];rfl)).1 e.symm
           have gS:bw≠J:=fun e=>(R.out.path aN.out).off bw rfl (e▸bE)
           have aI:=au.out.lt
           have fQ:=G.out.st.st.lt
           have bz:=aAH bf
           exact⟨(al g fQ gb _).trans s0,(al bw bz gS _).trans s1,(al A aI aO _).trans s2,(al A aI aO _).trans s3,(al A aI aO _).trans s4,(al A aI aO _).trans s5,(al A aI aO _).trans s6⟩)
          clear ba bf r1 r3 gR v1 v3
          refine wp_region_noPanic ?_
          refine wp_region_held_drew (S:=fun W:World=>W.cell? ⟨g,144,none⟩=some (.slice (some ⟨J,0,none⟩) bd Z.cd)∧W.cell? ⟨bw,j,none⟩=some (.int .i64 (x:Int))∧W.cell? ⟨A,0,none⟩=some (.string X)∧W.cell? ⟨A,1,none⟩=some (.int .u64 (ax:Int))∧W.cell? ⟨A,2,none⟩=some (.int .i64 (sx:Int))∧W.cell? ⟨A,3,none⟩=some (.int .i64 ((nx:Int)+1))∧W.cell? ⟨A,4,none⟩=some (.slice Av nv cv)) (by kernel_rfl) (by exact⟨s0,s1,s2,s3,s4,s5,s6⟩) (fun hHeld=>?_)
          refine tk (i:=0) (oi:=⟨some 264,_,_,_,_,_⟩) (v:=?_) rfl (Or.inl ⟨by rfl,?_⟩) ?_
          rotate_left
          ·intro W d;go_simp;try (with_reducible rfl)
          try simp only[Act.put,sA,sZ,sS]
          refine tk (i:=1) (oi:=⟨some 265,_,_,_,_,_⟩) (v:=?_) rfl (Or.inl ⟨by rfl,?_⟩) ?_
          rotate_left
          ·intro W d;go_simp;try (with_reducible rfl)
          try simp only[Act.put,sA,sZ,sS]
          refine tk (i:=2) (oi:=⟨some 266,_,_,_,_,_⟩) (v:=?_) rfl (Or.inl ⟨by rfl,?_⟩) ?_
          rotate_left
          ·intro W d;go_simp;try (with_reducible rfl)
          try simp only[Act.put,sA,sZ,sS]
          refine tk (i:=3) (oi:=⟨some 267,_,_,_,_,_⟩) (v:=?_) rfl (Or.inl ⟨by rfl,?_⟩) ?_
          rotate_left
          ·intro W d;have bC:=d.1;go_simp;try (with_reducible rfl)
          try simp only[Act.put,sA,sZ,sS]
          refine tk (i:=4) (oi:=⟨some 268,_,_,_,_,_⟩) (v:=?_) rfl (Or.inl ⟨by rfl,?_⟩) ?_
          rotate_left
          ·intro W d;go_simp;try (with_reducible rfl)
          try simp only[Act.put,sA,sZ,sS]
          refine tk (i:=5) (oi:=⟨some 269,_,_,_,_,_⟩) (v:=?_) rfl (Or.inl ⟨by rfl,?_⟩) ?_
          rotate_left
          ·intro W d;go_simp;try (with_reducible rfl)
          try simp only[Act.put,sA,sZ,sS]
          refine tk (i:=6) (oi:=⟨some 270,_,_,_,_,_⟩) (v:=?_) rfl (Or.inl ⟨by rfl,?_⟩) ?_
          rotate_left
          ·intro W d;go_simp;try (with_reducible rfl)
          try simp only[Act.put,sA,sZ,sS]
          refine tk (i:=7) (oi:=⟨some 271,_,_,_,_,_⟩) (v:=?_) rfl (Or.inl ⟨by rfl,?_⟩) ?_
          rotate_left
          ·intro W d;have bC:=d.2.1;go_simp;try (with_reducible rfl)
          try simp only[Act.put,sA,sZ,sS]
          refine tk (i:=8) (oi:=⟨some 272,_,_,_,_,_⟩) (v:=?_) rfl (Or.inl ⟨by rfl,?_⟩) ?_
          rotate_left
          ·intro W d;have bC:=d;go_simp;try (with_reducible rfl)
          try simp only[Act.put,sA,sZ,sS]
          refine tk (i:=9) (oi:=⟨some 273,_,_,_,_,_⟩) (v:=?_) rfl (Or.inl ⟨by rfl,?_⟩) ?_
          rotate_left
          ·intro W d;go_simp;try (with_reducible rfl)
          try simp only[Act.put,sA,sZ,sS]
          refine wpAnyH_ready (rs:=[10]) (by kernel_rfl) (by simp) ?_
          refine AllReadyH.cons (o:=⟨none,_,_,_,_,_⟩) rfl (fun K n=>?_) AllReadyH.nil
          refine aB9 (o:=⟨none,_,_,_,_,_⟩) rfl 142 (.tmp 273) (.tmp 272) rfl J (x*5) #[.string X,.int .u64 (ax:Int),.int .i64 (sx:Int),.int .i64 ((nx:Int)+1),.slice Av nv cv] rfl rfl bX.out knI (by simp[Value.oneCell']) ?_
          refine n.out _ _ (by exact aG.out) (fun hHeld=>?_)
          clear n K
          try simp only[Act.put,sA,sZ,sS]
          refine wpAnyH_done (by kernel_rfl) ?_ _
          refine NoPanic.normal ?_
          try go_wp2_with fail
          go_roundw
          case measure=>simp[intOf];omega
          case rel=>
           refine⟨j+1,{Z with dl:=Z.dl.set x (⟨tx,ax,sx,nx+1,aV⟩,.slice Av nv cv)},by omega,by go_num,yH ?_,yH (ac.out.trans bJ.out),yH ?_⟩
           ·rw[ce.out,aC3,fE.out,iV.out]
            exact er.out
           ·exact R.out.path bJ.out
         ·have jm:((nx:Int)==0)=false:=by simp;omega
          have hh:=eR
          rw[if_neg (by omega)]at hh
          obtain⟨ep,bs⟩:=Prod.mk.inj hh
          have gH:=yH ep
          have fN:=yH bs
          have fl:=yH fun(z:Int) (hz:z=((nx-1:Nat):Int))=>show Calls Tryz.prog 71 #[.pointer (some ⟨g,0,none⟩),.slice Av nv cv,.int .i64 z,.int .u64 ((ax+48:Nat):Int),.int .u64 (t.b.length:Int)] wk (Linked B g Z (Mk.link V rx (nx-1) (ax+48) t.b.length) wk)from by
           subst hz
           exact link_any Av nv cv rx (nx-1) (ax+48) t.b.length wk cT.out (by omega) (show 0≤V.h.N 7∧V.h.N 7≤1000000 by have h:=u1.inv.n7;have h:0≤V.h.N 7∧V.h.N 7≤(V.b.length:Int):=h;omega) (show 0≤V.h.N 18∧V.h.N 18≤1000000 by have h:=u1.inv.n18;have h:0≤V.h.N 18∧V.h.N 18≤(V.b.length:Int):=h;omega) dA.out e4 (by omega) (by omega) (by omega) (by omega)
          unfold Linked at fl
          clear hh eR ep bs
          go_upto_region 38 with(first
           |(go_at_call 71;(refine(fl.out _ (by omega)).mono ?_);rintro e wl ⟨_,q8,rfl,⟨A7,n7,c7,rfl,iN,hH⟩,iX,eC⟩;have hJ:=yH (show Arr wl (Pl.away q8 B g) (.slice A7 n7 c7) aV from fN.out▸⟨A7,n7,c7,rfl,iN,hH⟩);have jq:=yH (show At wl B g q8 aX from gH.out▸iX);have jG:=yH eC;have a8:=yH (show ¬q8.foot g A from fun h=>(eC.foot A h).elim (fun h=>dO.out A h rfl) (fun h=>absurd RK.out.lt (by omega)));have dG:=yH (show Blk wl A [.string X,.int .u64 (ax:Int),.int .i64 (sx:Int),.int .i64 (nx:Int),.slice Av nv cv] 142 from(eC.kept.block A RK.out.lt (fun h=>dO.out A h rfl)).trans RK.out);have l4:=dG.out.cell (i:=4) rfl;have jA:=dG.out.frozen 4;clear iN hH iX eC)
           |fail)
          have av:=yH (show Blk (wl.setCell ⟨A,4,none⟩ (.slice A7 n7 c7)) A [.string X,.int .u64 (ax:Int),.int .i64 (sx:Int),.int .i64 (nx:Int),.slice A7 n7 c7] 142 from dG.out.set_ 4 (.slice A7 n7 c7))
          have em:=yH (At.setK jq.out dG.out a8.out 4 (.slice A7 n7 c7))
          have dC:=yH (Path.side (Path.trans (Path.of_below (g:=g) (p:=Z) bk.out) jG.out) (KeptF.set1 wl A 4 (.slice A7 n7 c7)) (fun k' E=>by rw[show k'=A from E,gd.out];exact yR _))
          have b3:=yH ((aCJ hJ.out dG.out).kept (KeptF.set1 wl A 4 (.slice A7 n7 c7)) (fun b _ E h2=>E (.inr h2)) (fun b _ E h2=>E (.inl h2)))
          have ec:=yH (show aX.datas.length=V.datas.length from congrArg List.length h5)
          generalize wl.setCell ⟨A,4,none⟩ (.slice A7 n7 c7)=bR at*
          clear k3 ip k4 z4 l4 jA
          have an:=yH (av.out.set_ 3 (.int .i64 ((nx:Int)+1)))
          have dp:=yH (At.setK em.out av.out (a8.out) 3 (.int .i64 ((nx:Int)+1)))
          have eb:=yH (Path.side dC.out (KeptF.set1 bR A 3 (.int .i64 ((nx:Int)+1))) (fun k' E=>by rw[show k'=A from E,gd.out];exact yR _))
          have bm:=yH ((aCJ b3.out av.out).kept (KeptF.set1 bR A 3 (.int .i64 ((nx:Int)+1))) (fun b _ E h2=>E (.inr h2)) (fun b _ E h2=>E (.inl h2)))
          have r3:=av.out.cell (i:=3) rfl
          have gR:=av.out.frozen 3
          have r1:=av.out.cell (i:=1) rfl
          have v1:=an.out.cell (i:=1) rfl
          have v3:=an.out.cell (i:=3) rfl
          have iG:nx≤200000:=dy.out
          have ih:ax+64≤aX.b.length∧aX.b.length≤90000:=⟨by omega,by omega⟩
          go_upto_region 40 with(first
           |(go_at_call 72;(refine(aAW (ax+56) _ (by omega) _ _ dp.out (by omega) (by omega)).mono ?_);rintro e H ⟨rfl,dh,es⟩;have G:=yH dh;have aK:=yH es;clear dh es)
           |fail)
          have au:=yH (show Blk H A [.string X,.int .u64 (ax:Int),.int .i64 (sx:Int),.int .i64 ((nx:Int)+1),.slice A7 n7 c7] 142 from(aK.out.kept.block A an.out.lt a8.out).trans an.out)
          have cp:=yH (aAX bm.out aK.out)
          have aN:=yH (eb.out.trans aK.out)
          have af:x<q8.dl.length:=by
           have e:=congrArg List.length G.out.dm
           rw[List.length_map]at e
           have e:q8.dl.length=aX.datas.length:=e
           rw[e,ec.out]
           exact hR.out
          obtain⟨J,ab,hd,_,_,_,_,_⟩:=aBp (At.drew G.out).dr x af
          obtain⟨bd,aD⟩: ∃y,q8.nd=y:=⟨_,rfl⟩
          have s0:H.drew.cell? ⟨g,144,none⟩=some (.slice (some ⟨J,0,none⟩) bd q8.cd):=by rw[←ab,←aD];exact At.cd (At.drew G.out)
          have jj:x<bd:=by rw[←aD,←aAy G.out.dr];exact af
          clear aD
          obtain⟨ji,ae,bf⟩:=aEf (R.out.path aN.out).own j (by rw[aZ.out];exact bK)
          injection ae with ae
          injection ae with ae
          subst ae
          rw[ir.out]at bf
          have s1:H.drew.cell? ⟨bw,j,none⟩=some (.int .i64 (x:Int)):=bf
          have s2:H.drew.cell? ⟨A,0,none⟩=some (.string X):=au.out.cell (i:=0) rfl
          have s3:H.drew.cell? ⟨A,1,none⟩=some (.int .u64 (ax:Int)):=au.out.cell (i:=1) rfl
          have s4:H.drew.cell? ⟨A,2,none⟩=some (.int .i64 (sx:Int)):=au.out.cell (i:=2) rfl
          have s5:H.drew.cell? ⟨A,3,none⟩=some (.int .i64 ((nx:Int)+1)):=au.out.cell (i:=3) rfl
          have s6:H.drew.cell? ⟨A,4,none⟩=some (.slice A7 n7 c7):=au.out.cell (i:=4) rfl
          have bX:=yH (aGv (ab▸(At.drew G.out).dr) x (by rw[aAy G.out.dr]at af;exact af))
          have ei:knC ⟨tx,ax,sx,nx+1,aV⟩ (.slice A7 n7 c7)=[.string X,.int .u64 (ax:Int),.int .i64 (sx:Int),.int .i64 ((nx:Int)+1),.slice A7 n7 c7]:=by unfold knC;rw[hN.out];rfl
          have ba:=At.setD (At.drew G.out) x af J ab ⟨tx,ax,sx,nx+1,aV⟩ (.slice A7 n7 c7) (show Arr H.drew (Pl.away q8 B g) _ aV from cp.out)
          rw[ei]at ba
          have er:=yH ba.1
          have bJ:=yH (aN.out.drew.trans ba.2)
          have bE:q8.foot g J:= .inr (.inr (.inl (by rw[ab];rfl)))
          have aG:=yH (show(fun W:World=>W.cell? ⟨g,144,none⟩=some (.slice (some ⟨J,0,none⟩) bd q8.cd)∧W.cell? ⟨bw,j,none⟩=some (.int .i64 (x:Int))∧W.cell? ⟨A,0,none⟩=some (.string X)∧W.cell? ⟨A,1,none⟩=some (.int .u64 (ax:Int))∧W.cell? ⟨A,2,none⟩=some (.int .i64 (sx:Int))∧W.cell? ⟨A,3,none⟩=some (.int .i64 ((nx:Int)+1))∧W.cell? ⟨A,4,none⟩=some (.slice A7 n7 c7)) (H.drew.setCells J (x*5) [.string X,.int .u64 (ax:Int),.int .i64 (sx:Int),.int .i64 ((nx:Int)+1),.slice A7 n7 c7])from by
           have al: ∀k',k'<H.heap.size→k'≠J→ ∀o,(H.drew.setCells J (x*5) [.string X,.int .u64 (ax:Int),.int .i64 (sx:Int),.int .i64 ((nx:Int)+1),.slice A7 n7 c7]).cell? ⟨k',o,none⟩=H.drew.cell? ⟨k',o,none⟩:=fun k' E h2 o=>World.cell?_setCells_out J _ _ _ _ (fun h3=>absurd h3 h2)
           have aO:A≠J:=fun e=>a8.out (e▸bE)
           have gb:g≠J:=fun e=>(G.out.dg J (by rw[ab];rfl)).1 e.symm
           have gS:bw≠J:=fun e=>(R.out.path aN.out).off bw rfl (e▸bE)
           have aI:=au.out.lt
           have fQ:=G.out.st.st.lt
           have bz:=aAH bf
           exact⟨(al g fQ gb _).trans s0,(al bw bz gS _).trans s1,(al A aI aO _).trans s2,(al A aI aO _).trans s3,(al A aI aO _).trans s4,(al A aI aO _).trans s5,(al A aI aO _).trans s6⟩)
          clear ba bf r1 r3 gR v1 v3
          refine wp_region_noPanic ?_
          refine wp_region_held_drew (S:=fun W:World=>W.cell? ⟨g,144,none⟩=some (.slice (some ⟨J,0,none⟩) bd q8.cd)∧W.cell? ⟨bw,j,none⟩=some (.int .i64 (x:Int))∧W.cell? ⟨A,0,none⟩=some (.string X)∧W.cell? ⟨A,1,none⟩=some (.int .u64 (ax:Int))∧W.cell? ⟨A,2,none⟩=some (.int .i64 (sx:Int))∧W.cell? ⟨A,3,none⟩=some (.int .i64 ((nx:Int)+1))∧W.cell? ⟨A,4,none⟩=some (.slice A7 n7 c7)) (by kernel_rfl) (by exact⟨s0,s1,s2,s3,s4,s5,s6⟩) (fun hHeld=>?_)
          refine tk (i:=0) (oi:=⟨some 264,_,_,_,_,_⟩) (v:=?_) rfl (Or.inl ⟨by rfl,?_⟩) ?_
          rotate_left
          ·intro W d;go_simp;try (with_reducible rfl)
          try simp only[Act.put,sA,sZ,sS]
          refine tk (i:=1) (oi:=⟨some 265,_,_,_,_,_⟩) (v:=?_) rfl (Or.inl ⟨by rfl,?_⟩) ?_
          rotate_left
          ·intro W d;go_simp;try (with_reducible rfl)
          try simp only[Act.put,sA,sZ,sS]
          refine tk (i:=2) (oi:=⟨some 266,_,_,_,_,_⟩) (v:=?_) rfl (Or.inl ⟨by rfl,?_⟩) ?_
          rotate_left
          ·intro W d;go_simp;try (with_reducible rfl)
          try simp only[Act.put,sA,sZ,sS]
          refine tk (i:=3) (oi:=⟨some 267,_,_,_,_,_⟩) (v:=?_) rfl (Or.inl ⟨by rfl,?_⟩) ?_
          rotate_left
          ·intro W d;have bC:=d.1;go_simp;try (with_reducible rfl)
          try simp only[Act.put,sA,sZ,sS]
          refine tk (i:=4) (oi:=⟨some 268,_,_,_,_,_⟩) (v:=?_) rfl (Or.inl ⟨by rfl,?_⟩) ?_
          rotate_left
          ·intro W d;go_simp;try (with_reducible rfl)
          try simp only[Act.put,sA,sZ,sS]
          refine tk (i:=5) (oi:=⟨some 269,_,_,_,_,_⟩) (v:=?_) rfl (Or.inl ⟨by rfl,?_⟩) ?_
          rotate_left
          ·intro W d;go_simp;try (with_reducible rfl)
          try simp only[Act.put,sA,sZ,sS]
          refine tk (i:=6) (oi:=⟨some 270,_,_,_,_,_⟩) (v:=?_) rfl (Or.inl ⟨by rfl,?_⟩) ?_
          rotate_left
          ·intro W d;go_simp;try (with_reducible rfl)
          try simp only[Act.put,sA,sZ,sS]
          refine tk (i:=7) (oi:=⟨some 271,_,_,_,_,_⟩) (v:=?_) rfl (Or.inl ⟨by rfl,?_⟩) ?_
          rotate_left
          ·intro W d;have bC:=d.2.1;go_simp;try (with_reducible rfl)
          try simp only[Act.put,sA,sZ,sS]
          refine tk (i:=8) (oi:=⟨some 272,_,_,_,_,_⟩) (v:=?_) rfl (Or.inl ⟨by rfl,?_⟩) ?_
          rotate_left
          ·intro W d;have bC:=d;go_simp;try (with_reducible rfl)
          try simp only[Act.put,sA,sZ,sS]
          refine tk (i:=9) (oi:=⟨some 273,_,_,_,_,_⟩) (v:=?_) rfl (Or.inl ⟨by rfl,?_⟩) ?_
          rotate_left
          ·intro W d;go_simp;try (with_reducible rfl)
          try simp only[Act.put,sA,sZ,sS]
          refine wpAnyH_ready (rs:=[10]) (by kernel_rfl) (by simp) ?_
          refine AllReadyH.cons (o:=⟨none,_,_,_,_,_⟩) rfl (fun K n=>?_) AllReadyH.nil
          refine aB9 (o:=⟨none,_,_,_,_,_⟩) rfl 142 (.tmp 273) (.tmp 272) rfl J (x*5) #[.string X,.int .u64 (ax:Int),.int .i64 (sx:Int),.int .i64 ((nx:Int)+1),.slice A7 n7 c7] rfl rfl bX.out knI (by simp[Value.oneCell']) ?_
          refine n.out _ _ (by exact aG.out) (fun hHeld=>?_)
          clear n K
          try simp only[Act.put,sA,sZ,sS]
          refine wpAnyH_done (by kernel_rfl) ?_ _
          refine NoPanic.normal ?_
          try go_wp2_with fail
          go_roundw
          case measure=>simp[intOf];omega
          case rel=>
           refine⟨j+1,{q8 with dl:=q8.dl.set x (⟨tx,ax,sx,nx+1,aV⟩,.slice A7 n7 c7)},by omega,by go_num,yH ?_,yH (ac.out.trans bJ.out),yH ?_⟩
           ·rw[ce.out,aC3,fE.out,iV.out]
            exact er.out
           ·exact R.out.path bJ.out
        ·obtain rfl:j=i:=by omega
         obtain⟨u1,u2,u3,u4,u5,u6,u7⟩:=fO.out j (by rw[aZ.out];exact yR _)
         have dz:who.take j=who:=List.take_of_length_le (by rw[aZ.out];exact yR _)
         have ga:=aH.out
         rw[dz]at u3 u5 u7 ga
         have fw:m.h.N 8=(n8:Int):=et.out.n8.symm.trans bP.out
         have dL:(m.h.N 8).toNat=n8:=by rw[fw];exact Int.toNat_natCast n8
         have gQ:=yH (show Mk.grown m L real mono K=Mk.markAll t.b.length mL who from by
          unfold Mk.grown
          rw[gX.out]
          dsimp only
          rw[aG.out,dE.out,←ja.out,dL,jc.out])
         have iA:=yH dL
         clear dL fw dz u1 u2 u4 u6
         generalize Mk.markAll t.b.length mL who=mf at*
         have dW:=yH ga
         have iH:mf.b.length≤80000:=by omega
         have fB:mf.C=m.C:=u5.trans (a5.out.trans et.out.C)
         have dD:=yH (show mf.h.N 8=(n8:Int)from u7.trans (g9.out.trans bP.out))
         have ek:wr.cell? ⟨g,143,none⟩=some (.slice (some ⟨Z.bb,0,none⟩) mf.b.length Z.cb):=At.cb dW.out
         have hB:wr.cell? ⟨g,50,none⟩=some (.int .i64 (m.C.most:Int)):=fB▸dW.out.st.st.cell (Mk.get_most _ _)
         have gh:=yH ((Path.of_below (g:=g) (p:=p) aM.out).below ar.out)
         have cu:(Tryz.prog.info? 61).map (·.size)=some (idE K).toArray.size:=by kernel_rfl
         clear ga u3 u5 u7 fB
         have gi:=yH (show listL aE=L from ej.out)
         obtain⟨f8,dj⟩: ∃y,mf.b.length=y:=⟨_,rfl⟩
         have fu:=yH dj
         rw[dj]at ek iH
         clear dj
         try clear cC
         try clear eF
         try clear bW
         try clear fn
         try clear ci
         try clear cA
         try clear dR
         try clear bZ
         try clear ay
         try clear cl
         try clear ew
         try clear aZ
         try clear cX
         try clear di
         try clear eL
         try clear e6
         try clear HNd
         try clear a0
         try clear bS
         try clear cI
         try clear aq
         try clear eO
         try clear am
         try clear cq
         try clear b9
         try clear bj
         try clear gO
         try clear gr
         try clear fk
         try clear cS
         try clear cE
         try clear eE
         try clear gg
         try clear cY
         try clear dP
         try clear dx
         try clear eB
         try clear aW
         try clear cH
         try clear HA5
         try clear fd
         try clear fT
         try clear dI
         try clear ea
         try clear cO
         try clear iy
         try clear d7
         try clear ik
         try clear ib
         try clear cx
         try clear ah
         try clear gU
         try clear dw
         try clear gt
         try clear eS
         try clear cs
         try clear gw
         try clear fR
         try clear eI
         try clear fX
         try clear cw
         try clear bg
         try clear gf
         try clear gT
         try clear ez
         try clear ey
         try clear eV
         try clear fO
         try clear cg
         try clear b8
         try clear cO
         try clear i9
         try clear R
         try clear ia
         try clear a5
         try clear g9
         try clear HHeld
         try clear hHeld
         try clear cy
         try clear he
         try clear iM
         try clear fZ
         try clear eu
         try clear eG
         try clear dY
         try clear a6
         try clear HI
         by_cases ex:m.C.most<f8
         ·have d1:decide ((m.C.most:Int)<(f8:Int))=true:=by simp;omega
          have eT:=yH (show Mk.acode m aE real mono K=15 from by
           unfold Mk.acode
           rw[bU.out,if_neg (by simp),aG.out,if_neg HT.out,gi.out,gQ.out,fu.out,if_pos ex])
          have fF:=yH (At.drew (At.offB cZ.out ac.out.kept (fun k' hk'=>by have:=bN k' hk';have:=aM.out.size;omega)))
          have iC:(Mk.cells m {po.S with b:= .slice (some ⟨po.bb,0,none⟩) m.b.length po.cb}).toArray.all (·.oneCell')=true:=by
           obtain⟨Ao,no,co,jK,_,_⟩:=cZ.out.ma
           exact aN9 _ _ rfl rfl rfl (by show po.M.oneCell'=true;rw[jK];rfl)
          have iu:=yH (show wr.drew.heap[g]? =some (.cells _ 126 (0,0))from(At.drew dW.out).st.st)
          have jD:(Mk.cells mf {Z.S with b:= .slice (some ⟨Z.bb,0,none⟩) mf.b.length Z.cb}).toArray.size=(Mk.cells m {po.S with b:= .slice (some ⟨po.bb,0,none⟩) m.b.length po.cb}).toArray.size:=by simp[Mk.len]
          go_upto_region 41 with fail
          go_region
          go_upto_region 43 with(first
           |((with_reducible apply aAb 288);refine wpList_load_row rfl 126 (.tmp 287) rfl w1.heap.size rfl 126 (Mk.cells m {po.S with b:= .slice (some ⟨po.bb,0,none⟩) m.b.length po.cb}).toArray (0,0) _ fF.out.st.st Tryz.underlying126 rfl (aBE _ _) ?_)
           |((with_reducible apply aAa (.tmp 289) (.tmp 288));refine wpList_store_row rfl 126 (.tmp 289) (.tmp 288) rfl g (Mk.cells m {po.S with b:= .slice (some ⟨po.bb,0,none⟩) m.b.length po.cb}).toArray rfl rfl 126 _ iu.out (aBE _ _) jD iC ?_)
           |fail)
          have iK:=yH (At.restore fF.out _ iu.out dW.out.gB (by have E:=bN g (.inl rfl);have h2:=aM.out.size;omega))
          have hI:=yH (show Path g p w po _ from⟨fun k' hk'=>by
           rcases hk' with E|E
           ·exact .inl (.inl E)
           ·right
            have h2:=(At.lt cZ.out k' (.inr E)).1
            have h3:=aM.out.size
            omega,((gh.out.trans ac.out).kept.drew).trans (aDq wr.drew g (Mk.cells m {po.S with b:= .slice (some ⟨po.bb,0,none⟩) m.b.length po.cb}).toArray) (fun k' _ E=> .inl E)⟩)
          clear d1 ek hB
          go_wp2
          go_ret2
          exact aCj eT.out (by decide) ⟨po,iK.out,hI.out⟩
         ·have d1:decide ((m.C.most:Int)<(f8:Int))=false:=by simp;omega
          have eT:=yH (show Mk.acode m aE real mono K=0 from by
           unfold Mk.acode
           rw[bU.out,if_neg (by simp),aG.out,if_neg HT.out,gi.out,gQ.out,fu.out,if_neg ex])
          have fi:=yH (show Mk.entered m (listL aE) real mono K=Mk.told mf n8 sq real mono K t.b.length from by
           unfold Mk.entered
           rw[gi.out,gQ.out,iA.out,aG.out,dE.out,gX.out])
          go_upto_region 41 with fail
          go_region
          have eD:=yH (At.drew dW.out)
          have iU:=yH ac.out.drew
          generalize wr.drew=e9 at*
          clear d1 ek hB
          rcases Nat.eq_zero_or_pos n8 with hz|hz
          ·have i0:((n8:Int)==0)=true:=by simp[hz]
           have HZ:=yH hz
           clear hz
           have aP:=At.drew (At.flat eD.out)
           have hO:=At.cN aP 10 129 (by decide) rfl
           have ig:=At.fz aP 129
           have ag:=At.drew (At.setNh _ (At.flat eD.out) 10 129 (by decide) rfl sq)
           have im:=At.cN ag 12 131 (by decide) rfl
           have hM:=At.fz ag 131
           obtain⟨dJ,ap⟩: ∃y,y=setN (setN mf.h 10 sq) 12 real:=⟨_,rfl⟩
           have br:=yH (show At ((e9.setCell ⟨g,129,none⟩ (.int .u64 sq)).setCell ⟨g,131,none⟩ (.int .u64 real)).drew B g Z {mf with h:=dJ}from by rw[ap];exact At.drew (At.setNh _ (At.setNh _ (At.flat eD.out) 10 129 (by decide) rfl sq) 12 131 (by decide) rfl real))
           have gV:=yH ap
           have bt:=yH (show dJ.N 8=(n8:Int)from by rw[ap];exact dD.out)
           clear ap
           have fa:=yH (((iU.out.set 129 (.int .u64 sq)).set 131 (.int .u64 real)).drew)
           clear aP ag
           go_upto_region 45 with fail
           refine wp_region_noPanic ?_
           refine wp_region_held_drew (S:=fun _:World=>True) (by kernel_rfl) trivial (fun hHeld=>?_)
           refine tk (i:=0) (oi:=⟨some 292,_,_,_,_,_⟩) (v:=?_) rfl (Or.inl ⟨by rfl,?_⟩) ?_
           rotate_left
           ·intro W d;go_simp;try (with_reducible rfl)
           try simp only[Act.put,sA,sZ,sS]
           refine tk (i:=1) (oi:=⟨some 293,_,_,_,_,_⟩) (v:=?_) rfl (Or.inl ⟨by rfl,?_⟩) ?_
           rotate_left
           ·intro W d;go_simp;try (with_reducible rfl)
           try simp only[Act.put,sA,sZ,sS]
           refine tk (i:=2) (oi:=⟨some 294,_,_,_,_,_⟩) (v:=?_) rfl (Or.inl ⟨by rfl,?_⟩) ?_
           rotate_left
           ·intro W d;go_simp;try (with_reducible rfl)
           try simp only[Act.put,sA,sZ,sS]
           refine tk (i:=3) (oi:=⟨some 295,_,_,_,_,_⟩) (v:=?_) rfl (Or.inl ⟨by rfl,?_⟩) ?_
           rotate_left
           ·intro W d;go_simp;try (with_reducible rfl)
           try simp only[Act.put,sA,sZ,sS]
           refine tk (i:=4) (oi:=⟨some 296,_,_,_,_,_⟩) (v:=?_) rfl (Or.inl ⟨by rfl,?_⟩) ?_
           rotate_left
           ·intro W d;go_simp;try (with_reducible rfl)
           try simp only[Act.put,sA,sZ,sS]
           refine tk (i:=5) (oi:=⟨some 297,_,_,_,_,_⟩) (v:=?_) rfl (Or.inl ⟨by rfl,?_⟩) ?_
           rotate_left
           ·intro W d;go_simp;try (with_reducible rfl)
           try simp only[Act.put,sA,sZ,sS]
           refine tk (i:=6) (oi:=⟨some 298,_,_,_,_,_⟩) (v:=?_) rfl (Or.inl ⟨by rfl,?_⟩) ?_
           rotate_left
           ·intro W d;go_simp;try (with_reducible rfl)
           try simp only[Act.put,sA,sZ,sS]
           refine tk (i:=7) (oi:=⟨some 299,_,_,_,_,_⟩) (v:=?_) rfl (Or.inl ⟨by rfl,?_⟩) ?_
           rotate_left
           ·intro W d;go_simp;try (with_reducible rfl)
           try simp only[Act.put,sA,sZ,sS]
           refine tk (i:=9) (oi:=⟨some 300,_,_,_,_,_⟩) (v:=?_) rfl (Or.inl ⟨by rfl,?_⟩) ?_
           rotate_left
           ·intro W d;go_simp;try (with_reducible rfl)
           try simp only[Act.put,sA,sZ,sS]
           refine tk (i:=10) (oi:=⟨some 301,_,_,_,_,_⟩) (v:=?_) rfl (Or.inl ⟨by rfl,?_⟩) ?_
           rotate_left
           ·intro W d;go_simp;try (with_reducible rfl)
           try simp only[Act.put,sA,sZ,sS]
           refine tk (i:=11) (oi:=⟨some 302,_,_,_,_,_⟩) (v:=?_) rfl (Or.inl ⟨by rfl,?_⟩) ?_
           rotate_left
           ·intro W d;go_simp;try (with_reducible rfl)
           try simp only[Act.put,sA,sZ,sS]
           refine wpAnyH_ready (rs:=[8]) (by kernel_rfl) (by simp) ?_
           refine AllReadyH.cons (o:=⟨none,_,_,_,_,_⟩) rfl (fun K n=>?_) AllReadyH.nil
           go_simp
           skip
           try go_wp2_with fail
           refine n.out _ _ (by trivial) (fun hHeld=>?_)
           clear n K
           try simp only[Act.put,sA,sZ,sS]
           refine tk (i:=12) (oi:=⟨some 303,_,_,_,_,_⟩) (v:=?_) rfl (Or.inl ⟨by rfl,?_⟩) ?_
           rotate_left
           ·intro W d;go_simp;try (with_reducible rfl)
           try simp only[Act.put,sA,sZ,sS]
           refine wpAnyH_ready (rs:=[13]) (by kernel_rfl) (by simp) ?_
           refine AllReadyH.cons (o:=⟨none,_,_,_,_,_⟩) rfl (fun K n=>?_) AllReadyH.nil
           go_simp
           skip
           try go_wp2_with fail
           refine n.out _ _ (by trivial) (fun hHeld=>?_)
           clear n K
           try simp only[Act.put,sA,sZ,sS]
           refine wpAnyH_done (by kernel_rfl) ?_ _
           refine NoPanic.normal ?_
           try go_wp2_with fail
           generalize ((e9.setCell ⟨g,129,none⟩ (.int .u64 sq)).setCell ⟨g,131,none⟩ (.int .u64 real)).drew=eq at*
           clear hO ig im hM i0
           have bF:eq.cell? ⟨g,127,none⟩=some (.int .u64 (n8:Int)):=(At.cN br.out 8 127 (by decide) rfl).trans (congrArg (fun x=>some (Value.int .u64 x)) bt.out)
           have dZ:=At.fz br.out 127
           have gm:IntKind.u64.wrap ((n8:Int)+1)=(n8:Int)+1:=by rw[IntKind.wrap_u64];omega
           go_upto_region 46 with fail
           go_region
           have bl:=yH (At.drew (At.setNh _ br.out 8 127 (by decide) rfl ((n8:Int)+1)))
           have fS:=yH ((fa.out.set 127 (.int .u64 ((n8:Int)+1))).drew)
           generalize (eq.setCell ⟨g,127,none⟩ (.int .u64 ((n8:Int)+1))).drew=gl at*
           clear bF dZ gm
           have aP:=At.drew bl.out
           have dt:=At.cN aP 9 128 (by decide) rfl
           have dM:=At.fz aP 128
           have ag:=At.drew (At.setNh _ bl.out 9 128 (by decide) rfl sq)
           have db:=At.cN ag 13 132 (by decide) rfl
           have dF:=At.fz ag 132
           have aU:=At.drew (At.setNh _ (At.setNh _ bl.out 9 128 (by decide) rfl sq) 13 132 (by decide) rfl real)
           have ds:=At.cN aU 14 133 (by decide) rfl
           have dN:=At.fz aU 133
           have ee:=yH (At.drew (At.setNh _ (At.setNh _ (At.setNh _ bl.out 9 128 (by decide) rfl sq) 13 132 (by decide) rfl real) 14 133 (by decide) rfl mono))
           have dv:=yH ((((fS.out.set 128 (.int .u64 sq)).set 132 (.int .u64 real)).set 133 (.int .u64 mono)).drew)
           clear aP ag aU
           go_upto_region 47 with fail
           refine wp_region_noPanic ?_
           refine wp_region_held_drew (S:=fun _:World=>True) (by kernel_rfl) trivial (fun hHeld=>?_)
           refine tk (i:=0) (oi:=⟨some 315,_,_,_,_,_⟩) (v:=?_) rfl (Or.inl ⟨by rfl,?_⟩) ?_
           rotate_left
           ·intro W d;go_simp;try (with_reducible rfl)
           try simp only[Act.put,sA,sZ,sS]
           refine tk (i:=1) (oi:=⟨some 316,_,_,_,_,_⟩) (v:=?_) rfl (Or.inl ⟨by rfl,?_⟩) ?_
           rotate_left
           ·intro W d;go_simp;try (with_reducible rfl)
           try simp only[Act.put,sA,sZ,sS]
           refine tk (i:=2) (oi:=⟨some 317,_,_,_,_,_⟩) (v:=?_) rfl (Or.inl ⟨by rfl,?_⟩) ?_
           rotate_left
           ·intro W d;go_simp;try (with_reducible rfl)
           try simp only[Act.put,sA,sZ,sS]
           refine tk (i:=3) (oi:=⟨some 318,_,_,_,_,_⟩) (v:=?_) rfl (Or.inl ⟨by rfl,?_⟩) ?_
           rotate_left
           ·intro W d;go_simp;try (with_reducible rfl)
           try simp only[Act.put,sA,sZ,sS]
           refine tk (i:=4) (oi:=⟨some 319,_,_,_,_,_⟩) (v:=?_) rfl (Or.inl ⟨by rfl,?_⟩) ?_
           rotate_left
           ·intro W d;go_simp;try (with_reducible rfl)
           try simp only[Act.put,sA,sZ,sS]
           refine tk (i:=5) (oi:=⟨some 320,_,_,_,_,_⟩) (v:=?_) rfl (Or.inl ⟨by rfl,?_⟩) ?_
           rotate_left
           ·intro W d;go_simp;try (with_reducible rfl)
           try simp only[Act.put,sA,sZ,sS]
           refine tk (i:=6) (oi:=⟨some 321,_,_,_,_,_⟩) (v:=?_) rfl (Or.inl ⟨by rfl,?_⟩) ?_
           rotate_left
           ·intro W d;go_simp;try (with_reducible rfl)
           try simp only[Act.put,sA,sZ,sS]
           refine tk (i:=7) (oi:=⟨some 322,_,_,_,_,_⟩) (v:=?_) rfl (Or.inl ⟨by rfl,?_⟩) ?_
           rotate_left
           ·intro W d;go_simp;try (with_reducible rfl)
           try simp only[Act.put,sA,sZ,sS]
           refine tk (i:=8) (oi:=⟨some 323,_,_,_,_,_⟩) (v:=?_) rfl (Or.inl ⟨by rfl,?_⟩) ?_
           rotate_left
           ·intro W d;go_simp;try (with_reducible rfl)
           try simp only[Act.put,sA,sZ,sS]
           refine tk (i:=9) (oi:=⟨some 324,_,_,_,_,_⟩) (v:=?_) rfl (Or.inl ⟨by rfl,?_⟩) ?_
           rotate_left
           ·intro W d;go_simp;try (with_reducible rfl)
           try simp only[Act.put,sA,sZ,sS]
           refine tk (i:=11) (oi:=⟨some 325,_,_,_,_,_⟩) (v:=?_) rfl (Or.inl ⟨by rfl,?_⟩) ?_
           rotate_left
           ·intro W d;go_simp;try (with_reducible rfl)
           try simp only[Act.put,sA,sZ,sS]
           refine tk (i:=12) (oi:=⟨some 326,_,_,_,_,_⟩) (v:=?_) rfl (Or.inl ⟨by rfl,?_⟩) ?_
           rotate_left
           ·intro W d;go_simp;try (with_reducible rfl)
           try simp only[Act.put,sA,sZ,sS]
           refine tk (i:=13) (oi:=⟨some 327,_,_,_,_,_⟩) (v:=?_) rfl (Or.inl ⟨by rfl,?_⟩) ?_
           rotate_left
           ·intro W d;go_simp;try (with_reducible rfl)
           try simp only[Act.put,sA,sZ,sS]
           refine tk (i:=16) (oi:=⟨some 329,_,_,_,_,_⟩) (v:=?_) rfl (Or.inl ⟨by rfl,?_⟩) ?_
           rotate_left
           ·intro W d;go_simp;try (with_reducible rfl)
           try simp only[Act.put,sA,sZ,sS]
           refine tk (i:=17) (oi:=⟨some 330,_,_,_,_,_⟩) (v:=?_) rfl (Or.inl ⟨by rfl,?_⟩) ?_
           rotate_left
           ·intro W d;go_simp;try (with_reducible rfl)
           try simp only[Act.put,sA,sZ,sS]
           refine tk (i:=18) (oi:=⟨some 331,_,_,_,_,_⟩) (v:=?_) rfl (Or.inl ⟨by rfl,?_⟩) ?_
           rotate_left
           ·intro W d;go_simp;try (with_reducible rfl)
           try simp only[Act.put,sA,sZ,sS]
           refine wpAnyH_ready (rs:=[10]) (by kernel_rfl) (by simp) ?_
           refine AllReadyH.cons (o:=⟨none,_,_,_,_,_⟩) rfl (fun K n=>?_) AllReadyH.nil
           go_simp
           skip
           try go_wp2_with fail
           refine n.out _ _ (by trivial) (fun hHeld=>?_)
           clear n K
           try simp only[Act.put,sA,sZ,sS]
           refine tk (i:=14) (oi:=⟨some 328,_,_,_,_,_⟩) (v:=?_) rfl (Or.inl ⟨by rfl,?_⟩) ?_
           rotate_left
           ·intro W d;go_simp;try (with_reducible rfl)
           try simp only[Act.put,sA,sZ,sS]
           refine wpAnyH_ready (rs:=[15]) (by kernel_rfl) (by simp) ?_
           refine AllReadyH.cons (o:=⟨none,_,_,_,_,_⟩) rfl (fun K n=>?_) AllReadyH.nil
           go_simp
           skip
           try go_wp2_with fail
           refine n.out _ _ (by trivial) (fun hHeld=>?_)
           clear n K
           try simp only[Act.put,sA,sZ,sS]
           refine tk (i:=19) (oi:=⟨some 332,_,_,_,_,_⟩) (v:=?_) rfl (Or.inl ⟨by rfl,?_⟩) ?_
           rotate_left
           ·intro W d;go_simp;try (with_reducible rfl)
           try simp only[Act.put,sA,sZ,sS]
           refine wpAnyH_ready (rs:=[20]) (by kernel_rfl) (by simp) ?_
           refine AllReadyH.cons (o:=⟨none,_,_,_,_,_⟩) rfl (fun K n=>?_) AllReadyH.nil
           go_simp
           skip
           try go_wp2_with fail
           refine n.out _ _ (by trivial) (fun hHeld=>?_)
           clear n K
           try simp only[Act.put,sA,sZ,sS]
           refine wpAnyH_done (by kernel_rfl) ?_ _
           refine NoPanic.normal ?_
           go_upto_region 48 with fail
           generalize (((gl.setCell ⟨g,128,none⟩ (.int .u64 sq)).setCell ⟨g,132,none⟩ (.int .u64 real)).setCell ⟨g,133,none⟩ (.int .u64 mono)).drew=aQ at*
           clear dt dM db dF ds dN
           have gW:=yH (show Blk aQ w.heap.size (idE K) 61 from aDH (dv.out.kept.block _ (yL R1.out.lt ar.out.size) (fun hf=>absurd (bN _ hf) (Nat.lt_irrefl _))) (aDH (ar.out.block _ R1.out.lt) (aKU R1.out)))
           have bX:=yH (show aQ.there g 87 (idE K).toArray.size from aIC ee.out.st.st 87 16 (by decide))
           obtain⟨wq,bc⟩: ∃x,x=aQ.setCells g 87 (idE K).toArray.toList:=⟨_,rfl⟩
           have gY:=yH bc
           have cc:=yH (show At wq B g Z _ from by rw[bc];exact At.setBooth _ ee.out K)
           have gy:=yH (show Path g p w2 Z wq from by rw[bc];exact Path.setCells (w1:=aQ) (idE K) 87 aQ dv.out)
           clear bc
           have it:=At.cte cc.out
           have iB:=At.fz cc.out 141
           go_upto_region 49 with(first
            |((with_reducible apply aAb 335);refine wpList_load_row rfl 61 (.tmp 9) rfl w.heap.size rfl 61 (idE K).toArray (0,0) _ gW.out Tryz.underlying61 rfl cu ?_)
            |((with_reducible apply aAa (.tmp 339) (.tmp 335));refine aBd rfl 61 (.tmp 339) (.tmp 335) rfl g 87 (idE K).toArray rfl rfl bX.out cu (aKV K) gY.out ?_)
            |fail)
           have fW:=yH (At.setTeh _ cc.out (t.b.length:Int))
           have f9:=yH (gy.out.set 141 (.int .u64 (t.b.length:Int)))
           go_wp2
           go_ret2
           unfold Appended Mk.after
           rw[eT.out,if_pos rfl,if_pos rfl,aG.out,dE.out]
           refine⟨rfl,Z,?_,gh.out.trans f9.out⟩
           rw[fi.out]
           refine At.same fW.out rfl ?_ rfl rfl rfl rfl rfl
           unfold Mk.told
           dsimp only
           rw[if_pos HZ.out,←gV.out,bt.out]
          ·skip
           have i0:((n8:Int)==0)=false:=by simp;omega
           have HZ:=yH (show ¬n8=0 by omega)
           clear hz
           obtain⟨dJ,ap⟩: ∃y,y=mf.h:=⟨_,rfl⟩
           have br:=yH (show At e9 B g Z {mf with h:=dJ}from by rw[ap];exact eD.out)
           have gV:=yH ap
           have bt:=yH (show dJ.N 8=(n8:Int)from by rw[ap];exact dD.out)
           clear ap
           have fa:=iU
           obtain⟨eq,fq⟩: ∃y,y=e9:=⟨_,rfl⟩
           rw[←fq]at br fa⊢
           clear fq
           have bF:eq.cell? ⟨g,127,none⟩=some (.int .u64 (n8:Int)):=(At.cN br.out 8 127 (by decide) rfl).trans (congrArg (fun x=>some (Value.int .u64 x)) bt.out)
           have dZ:=At.fz br.out 127
           have gm:IntKind.u64.wrap ((n8:Int)+1)=(n8:Int)+1:=by rw[IntKind.wrap_u64];omega
           go_upto_region 46 with fail
           go_region
           have bl:=yH (At.drew (At.setNh _ br.out 8 127 (by decide) rfl ((n8:Int)+1)))
           have fS:=yH ((fa.out.set 127 (.int .u64 ((n8:Int)+1))).drew)
           generalize (eq.setCell ⟨g,127,none⟩ (.int .u64 ((n8:Int)+1))).drew=gl at*
           clear bF dZ gm
           have aP:=At.drew bl.out
           have dt:=At.cN aP 9 128 (by decide) rfl
           have dM:=At.fz aP 128
           have ag:=At.drew (At.setNh _ bl.out 9 128 (by decide) rfl sq)
           have db:=At.cN ag 13 132 (by decide) rfl
           have dF:=At.fz ag 132
           have aU:=At.drew (At.setNh _ (At.setNh _ bl.out 9 128 (by decide) rfl sq) 13 132 (by decide) rfl real)
           have ds:=At.cN aU 14 133 (by decide) rfl
           have dN:=At.fz aU 133
           have ee:=yH (At.drew (At.setNh _ (At.setNh _ (At.setNh _ bl.out 9 128 (by decide) rfl sq) 13 132 (by decide) rfl real) 14 133 (by decide) rfl mono))
           have dv:=yH ((((fS.out.set 128 (.int .u64 sq)).set 132 (.int .u64 real)).set 133 (.int .u64 mono)).drew)
           clear aP ag aU
           go_upto_region 47 with fail
           refine wp_region_noPanic ?_
           refine wp_region_held_drew (S:=fun _:World=>True) (by kernel_rfl) trivial (fun hHeld=>?_)
           refine tk (i:=0) (oi:=⟨some 315,_,_,_,_,_⟩) (v:=?_) rfl (Or.inl ⟨by rfl,?_⟩) ?_
           rotate_left
           ·intro W d;go_simp;try (with_reducible rfl)
           try simp only[Act.put,sA,sZ,sS]
           refine tk (i:=1) (oi:=⟨some 316,_,_,_,_,_⟩) (v:=?_) rfl (Or.inl ⟨by rfl,?_⟩) ?_
           rotate_left
           ·intro W d;go_simp;try (with_reducible rfl)
           try simp only[Act.put,sA,sZ,sS]
           refine tk (i:=2) (oi:=⟨some 317,_,_,_,_,_⟩) (v:=?_) rfl (Or.inl ⟨by rfl,?_⟩) ?_
           rotate_left
           ·intro W d;go_simp;try (with_reducible rfl)
           try simp only[Act.put,sA,sZ,sS]
           refine tk (i:=3) (oi:=⟨some 318,_,_,_,_,_⟩) (v:=?_) rfl (Or.inl ⟨by rfl,?_⟩) ?_
           rotate_left
           ·intro W d;go_simp;try (with_reducible rfl)
           try simp only[Act.put,sA,sZ,sS]
           refine tk (i:=4) (oi:=⟨some 319,_,_,_,_,_⟩) (v:=?_) rfl (Or.inl ⟨by rfl,?_⟩) ?_
           rotate_left
           ·intro W d;go_simp;try (with_reducible rfl)
           try simp only[Act.put,sA,sZ,sS]
           refine tk (i:=5) (oi:=⟨some 320,_,_,_,_,_⟩) (v:=?_) rfl (Or.inl ⟨by rfl,?_⟩) ?_
           rotate_left
           ·intro W d;go_simp;try (with_reducible rfl)
           try simp only[Act.put,sA,sZ,sS]
           refine tk (i:=6) (oi:=⟨some 321,_,_,_,_,_⟩) (v:=?_) rfl (Or.inl ⟨by rfl,?_⟩) ?_
           rotate_left
           ·intro W d;go_simp;try (with_reducible rfl)
           try simp only[Act.put,sA,sZ,sS]
           refine tk (i:=7) (oi:=⟨some 322,_,_,_,_,_⟩) (v:=?_) rfl (Or.inl ⟨by rfl,?_⟩) ?_
           rotate_left
           ·intro W d;go_simp;try (with_reducible rfl)
           try simp only[Act.put,sA,sZ,sS]
           refine tk (i:=8) (oi:=⟨some 323,_,_,_,_,_⟩) (v:=?_) rfl (Or.inl ⟨by rfl,?_⟩) ?_
           rotate_left
           ·intro W d;go_simp;try (with_reducible rfl)
           try simp only[Act.put,sA,sZ,sS]
           refine tk (i:=9) (oi:=⟨some 324,_,_,_,_,_⟩) (v:=?_) rfl (Or.inl ⟨by rfl,?_⟩) ?_
           rotate_left
           ·intro W d;go_simp;try (with_reducible rfl)
           try simp only[Act.put,sA,sZ,sS]
           refine tk (i:=11) (oi:=⟨some 325,_,_,_,_,_⟩) (v:=?_) rfl (Or.inl ⟨by rfl,?_⟩) ?_
           rotate_left
           ·intro W d;go_simp;try (with_reducible rfl)
           try simp only[Act.put,sA,sZ,sS]
           refine tk (i:=12) (oi:=⟨some 326,_,_,_,_,_⟩) (v:=?_) rfl (Or.inl ⟨by rfl,?_⟩) ?_
           rotate_left
           ·intro W d;go_simp;try (with_reducible rfl)
           try simp only[Act.put,sA,sZ,sS]
           refine tk (i:=13) (oi:=⟨some 327,_,_,_,_,_⟩) (v:=?_) rfl (Or.inl ⟨by rfl,?_⟩) ?_
           rotate_left
           ·intro W d;go_simp;try (with_reducible rfl)
           try simp only[Act.put,sA,sZ,sS]
           refine tk (i:=16) (oi:=⟨some 329,_,_,_,_,_⟩) (v:=?_) rfl (Or.inl ⟨by rfl,?_⟩) ?_
           rotate_left
           ·intro W d;go_simp;try (with_reducible rfl)
           try simp only[Act.put,sA,sZ,sS]
           refine tk (i:=17) (oi:=⟨some 330,_,_,_,_,_⟩) (v:=?_) rfl (Or.inl ⟨by rfl,?_⟩) ?_
           rotate_left
           ·intro W d;go_simp;try (with_reducible rfl)
           try simp only[Act.put,sA,sZ,sS]
           refine tk (i:=18) (oi:=⟨some 331,_,_,_,_,_⟩) (v:=?_) rfl (Or.inl ⟨by rfl,?_⟩) ?_
           rotate_left
           ·intro W d;go_simp;try (with_reducible rfl)
           try simp only[Act.put,sA,sZ,sS]
           refine wpAnyH_ready (rs:=[10]) (by kernel_rfl) (by simp) ?_
           refine AllReadyH.cons (o:=⟨none,_,_,_,_,_⟩) rfl (fun K n=>?_) AllReadyH.nil
           go_simp
           skip
           try go_wp2_with fail
           refine n.out _ _ (by trivial) (fun hHeld=>?_)
           clear n K
           try simp only[Act.put,sA,sZ,sS]
           refine tk (i:=14) (oi:=⟨some 328,_,_,_,_,_⟩) (v:=?_) rfl (Or.inl ⟨by rfl,?_⟩) ?_
           rotate_left
           ·intro W d;go_simp;try (with_reducible rfl)
           try simp only[Act.put,sA,sZ,sS]
           refine wpAnyH_ready (rs:=[15]) (by kernel_rfl) (by simp) ?_
           refine AllReadyH.cons (o:=⟨none,_,_,_,_,_⟩) rfl (fun K n=>?_) AllReadyH.nil
           go_simp
           skip
           try go_wp2_with fail
           refine n.out _ _ (by trivial) (fun hHeld=>?_)
           clear n K
           try simp only[Act.put,sA,sZ,sS]
           refine tk (i:=19) (oi:=⟨some 332,_,_,_,_,_⟩) (v:=?_) rfl (Or.inl ⟨by rfl,?_⟩) ?_
           rotate_left
           ·intro W d;go_simp;try (with_reducible rfl)
           try simp only[Act.put,sA,sZ,sS]
           refine wpAnyH_ready (rs:=[20]) (by kernel_rfl) (by simp) ?_
           refine AllReadyH.cons (o:=⟨none,_,_,_,_,_⟩) rfl (fun K n=>?_) AllReadyH.nil
           go_simp
           skip
           try go_wp2_with fail
           refine n.out _ _ (by trivial) (fun hHeld=>?_)
           clear n K
           try simp only[Act.put,sA,sZ,sS]
           refine wpAnyH_done (by kernel_rfl) ?_ _
           refine NoPanic.normal ?_
           go_upto_region 48 with fail
           generalize (((gl.setCell ⟨g,128,none⟩ (.int .u64 sq)).setCell ⟨g,132,none⟩ (.int .u64 real)).setCell ⟨g,133,none⟩ (.int .u64 mono)).drew=aQ at*
           clear dt dM db dF ds dN
           have gW:=yH (show Blk aQ w.heap.size (idE K) 61 from aDH (dv.out.kept.block _ (yL R1.out.lt ar.out.size) (fun hf=>absurd (bN _ hf) (Nat.lt_irrefl _))) (aDH (ar.out.block _ R1.out.lt) (aKU R1.out)))
           have bX:=yH (show aQ.there g 87 (idE K).toArray.size from aIC ee.out.st.st 87 16 (by decide))
           obtain⟨wq,bc⟩: ∃x,x=aQ.setCells g 87 (idE K).toArray.toList:=⟨_,rfl⟩
           have gY:=yH bc
           have cc:=yH (show At wq B g Z _ from by rw[bc];exact At.setBooth _ ee.out K)
           have gy:=yH (show Path g p w2 Z wq from by rw[bc];exact Path.setCells (w1:=aQ) (idE K) 87 aQ dv.out)
           clear bc
           have it:=At.cte cc.out
           have iB:=At.fz cc.out 141
           go_upto_region 49 with(first
            |((with_reducible apply aAb 335);refine wpList_load_row rfl 61 (.tmp 9) rfl w.heap.size rfl 61 (idE K).toArray (0,0) _ gW.out Tryz.underlying61 rfl cu ?_)
            |((with_reducible apply aAa (.tmp 339) (.tmp 335));refine aBd rfl 61 (.tmp 339) (.tmp 335) rfl g 87 (idE K).toArray rfl rfl bX.out cu (aKV K) gY.out ?_)
            |fail)
           have fW:=yH (At.setTeh _ cc.out (t.b.length:Int))
           have f9:=yH (gy.out.set 141 (.int .u64 (t.b.length:Int)))
           go_wp2
           go_ret2
           unfold Appended Mk.after
           rw[eT.out,if_pos rfl,if_pos rfl,aG.out,dE.out]
           refine⟨rfl,Z,?_,gh.out.trans f9.out⟩
           rw[fi.out]
           refine At.same fW.out rfl ?_ rfl rfl rfl rfl rfl
           unfold Mk.told
           dsimp only
           rw[if_neg HZ.out,←gV.out,bt.out]
 ·have j5:(lx !=0)=true:=by simpa using cV
  have kl:(lx==0)=false:=by simpa using cV
  have HE:=yH (show Mk.acode m aE real mono K=lx by unfold Mk.acode;rw[if_pos (by rw[bU.out];exact cV),bU.out])
  have ju:=yH cV
  clear cV
  go_wp2
  go_ret2
  exact aCj HE.out ju.out ⟨p,a6.out,Path.of_below aM.out⟩
end Ni
end Go.Proofs.YteaikbodkgjkdaaGreat
