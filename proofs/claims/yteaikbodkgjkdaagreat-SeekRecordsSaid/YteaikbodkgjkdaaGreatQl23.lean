/-
  Texts beneath.
-/
import Derived.Test.YteaikbodkgjkdaaGreatQl22
set_option linter.unusedVariables false
set_option linter.unusedSimpArgs false
set_option maxRecDepth 100000
open Go.ChangeShapes Go.WideShapes Go.ChangeAt Go.RowKit
namespace Go.Proofs.YteaikbodkgjkdaaGreat
namespace Ns
open Bytes8 Blk8 Own8 OwnE LeA Ob Ga Ma Kf Mb Mc Mf Mg Fa Fb Yd Na Nb Nc Nd Nh Nl Pr8
def Free (i:Nat):Prop:=i=7∨i=8∨i=15∨i=16∨i=18∨i=19
structure HG (m:Mk):Prop where
 n0:m.h.N 0=272
 n3:m.h.N 3=16*(m.C.ds:Int)
 n5:m.h.N 5=16*(m.C.fs:Int)
 cp:m.h.cp=2
 ic:m.h.ic=0∨m.h.ic=4
 I: ∀i,0≤m.h.I i∧m.h.I i<256
 nb: ∀i,i=1∨i=6∨(9≤i∧i≤14)∨i=17∨20≤i→0≤m.h.N i∧m.h.N i≤18446744073709551615
 ta:0≤m.h.ta∧m.h.ta≤4294967295
 ti:0≤m.h.ti∧m.h.ti≤4294967295
 te:0≤m.h.te∧m.h.te≤18446744073709551615
theorem HG.turn {m m':Mk}(h:HG m)(j:m'.C=m.C)(b:m'.h.cp=m.h.cp)(g:m'.h.ic=m.h.ic)(l:m'.h.I=m.h.I)(c:m'.h.ta=m.h.ta)(f:m'.h.ti=m.h.ti)(d:m'.h.te=m.h.te)
 (a: ∀i,¬Free i→i≠6→m'.h.N i=m.h.N i)(k:0≤m'.h.N 6∧m'.h.N 6≤18446744073709551615):HG m':=
 {n0:=by rw[a 0 (by unfold Free;omega) (by decide)];exact h.n0
  n3:=by rw[a 3 (by unfold Free;omega) (by decide),j];exact h.n3
  n5:=by rw[a 5 (by unfold Free;omega) (by decide),j];exact h.n5
  cp:=b.trans h.cp
  ic:=by rw[g];exact h.ic
  I:=by rw[l];exact h.I
  nb:=fun i hi=>by
   by_cases e:i=6
   ·rw[e];exact k
   ·rw[a i (by unfold Free;omega) e];exact h.nb i hi
  ta:=by rw[c];exact h.ta
  ti:=by rw[f];exact h.ti
  te:=by rw[d];exact h.te}
theorem HG.bytes {m m':Mk}(h:HG m)(b:m'.C=m.C)(a:m'.h=m.h):HG m':=
 h.turn b (by rw[a]) (by rw[a]) (by rw[a]) (by rw[a]) (by rw[a]) (by rw[a]) (fun i _ _=>by rw[a]) (by rw[a];exact h.nb 6 (by omega))
theorem aBR {m:Mk}(h:HG m)(l:List Int)(a:m.b.length≤10000000):HG (m.object l):=
 h.turn rfl rfl rfl rfl rfl rfl rfl (fun i hf h6=>by
  show(setN (setN m.h 6 _) 7 _).N i=_
  rw[aA1 _ _ _ _ (by intro e;exact hf (by unfold Free;omega)),aA1 _ _ _ _ h6]) (by
  show 0≤(setN (setN m.h 6 _) 7 _).N 6∧(setN (setN m.h 6 _) 7 _).N 6≤_
  rw[aA1 _ _ _ _ (by decide),aBN]
  omega)
theorem aFz {m:Mk}(h:HG m)(i:Nat)(v:Int)(a:Free i):HG {m with h:=setN m.h i v}:=
 h.turn rfl rfl rfl rfl rfl rfl rfl (fun j hf h6=>aA1 _ _ _ _ (fun e=>hf (e▸a))) (by
  show 0≤(setN m.h i v).N 6∧(setN m.h i v).N 6≤_
  rw[aA1 _ _ _ _ (by intro e;unfold Free at a;omega)]
  exact h.nb 6 (by omega))
theorem aOM {m:Mk}(h:HG m)(s:List Int)(a:m.b.length≤10000000):HG (Mk.put1 m s):=
 HG.bytes (m:={m.object (Mk.dobj m s)with h:=setN (setN (m.object (Mk.dobj m s)).h 19 (max (m.h.N 19) (inSlot m.datas (Mk.dslot m s):Nat))) 15 (m.h.N 15+1)}) (aFz (aFz (aBR h _ a) 19 _ (by unfold Free;omega)) 15 _ (by unfold Free;omega)) rfl rfl
theorem aM8 {m:Mk}(h:HG m)(a:List Kn)(tf:Nat)(s:List Int)(c:m.b.length≤10000000):HG (Mk.named m a tf s):=
 HG.bytes (m:={m.object (Mk.fobj m s)with h:=setN (m.object (Mk.fobj m s)).h 16 (m.h.N 16+1)}) (aFz (aBR h _ c) 16 _ (by unfold Free;omega)) rfl rfl
theorem aJs {m:Mk}(h:HG m)(s:List Int)(a:m.b.length≤10000000):HG (Mk.fieldOf m s).2:=by
 unfold Mk.fieldOf
 split
 ·exact h
 ·exact aM8 h _ _ _ a
theorem aDG (m:Mk)(who:List Nat)(a:List (List Int))(s r b:Int)(K:Nat→Int):(Mk.eobj m who a s r b K).length=16+(48+16*who.length):=by
 unfold Mk.eobj
 rw[aBj,aDC]
 unfold padN
 omega
theorem aJt {m:Mk}(h:HG m)(I:Inv m)(a s:List Int)(hs:AllB s)(c:s.length≤400)(f:m.b.length≤9000000):HG (Mk.dataNew m a s):=by
 have g:=aCx I s
 obtain⟨i,d,e⟩:=aBY m s
 exact HG.bytes (m:=(Mk.fieldOf (Mk.put1 m s) a).2) (aJs (aOM h s (by omega)) a (by omega)) rfl rfl
theorem aKG {m:Mk}(h:HG m)(I:Inv m)(c s:List Int)(hs:AllB s)(a:s.length≤400)(d:m.b.length≤9000000):HG (Mk.dataOf m c s).2:=by
 unfold Mk.dataOf
 split
 ·exact h
 ·exact aJt h I c s hs a d
theorem aC4 {m:Mk}(h:HG m)(I:Inv m)(l:List PR)(a: ∀q∈l,AllB q.1∧AllB q.2∧q.1.length≤64∧q.2.length≤256)(c:l.length≤16)(f:m.b.length≤1000000): ∀k,k≤l.length→HG (Mk.dataAll m (l.take k)).1
 |0,_=>h
 |k+1,hk=>by
  obtain⟨h1,h2,h3,h4,h5⟩:=aAs I l a k (by omega)
  obtain⟨e,g,j,i⟩:=a l[k] (List.getElem_mem _)
  have d:(pay l[k].1 l[k].2).length≤400:=by rw[Nee.pay_len];omega
  rw[aA0 m l k (by omega)]
  exact aKG (aC4 h I l a c f k (by omega)) h1 _ _ (aBr e g) d (by omega)
theorem aKH {m:Mk}(h:HG m)(arr:List Nat)(n fr item:Nat)(a:m.b.length≤10000000):HG (Mk.link m arr n fr item).1:=by
 unfold Mk.link
 split
 ·exact HG.bytes (m:={m.object (aobj arr.length)with h:=setN (m.object (aobj arr.length)).h 18 (m.h.N 18+1)}) (aFz (aBR h _ a) 18 _ (by unfold Free;omega)) rfl rfl
 ·exact h.bytes rfl rfl
theorem aKI {L:Nat}{arr:List Nat}{n:Nat}(h:Chain L arr n):arr.getD 0 0≤L∧arr.getLastD 0≤L:=by
 by_cases a:arr=[]
 ·subst a
  exact⟨Nat.zero_le _,Nat.zero_le _⟩
 ·have b:=List.length_pos_iff.2 a
  have d:=h.fits 0 b
  have c:=aA6 h a
  rw[yD,yG b]
  exact⟨by show arr[0]≤L;omega,by omega⟩
theorem aGn {m:Mk}(h:HG m)(I:Inv m)(item n:Nat)(k:Chain m.b.length m.main n)(p:m.b.length≤1000000)(c:184≤m.b.length):HG (Mk.linked m item n):=by
 obtain⟨l,g,u,w,v,q,s,r,t,j,d,f⟩:=aDD I (fr:=176) item k (by omega)
 obtain⟨x,o⟩:=aKI g
 have a:=aKH h m.main n 176 item (by omega)
 exact
  {n0:=a.n0,n3:=a.n3,n5:=a.n5,cp:=a.cp,ic:=a.ic,I:=a.I,te:=a.te
   nb:=fun i hi=>by
    show 0≤(setN (Mk.link m m.main n 176 item).1.h 11 _).N i∧(setN (Mk.link m m.main n 176 item).1.h 11 _).N i≤_
    by_cases e:i=11
    ·subst e
     rw[aBN]
     omega
    ·rw[aA1 _ _ _ _ e]
     exact a.nb i hi
   ta:=by
    show 0≤(((Mk.link m m.main n 176 item).2.1.getLastD 0:Nat):Int)∧(((Mk.link m m.main n 176 item).2.1.getLastD 0:Nat):Int)≤_
    omega
   ti:=by
    show 0≤(((Mk.link m m.main n 176 item).2.2:Nat):Int)∧(((Mk.link m m.main n 176 item).2.2:Nat):Int)≤_
    omega}
theorem aON {m:Mk}(h:HG m)(e j:Nat)(a:m.b.length≤10000000):HG (Mk.mark e m j):=by
 rw[aC3]
 refine HG.bytes (m:=(Mk.hitched e m j).1) ?_ rfl rfl
 unfold Mk.hitched
 split
 ·exact h.bytes rfl rfl
 ·exact aKH h _ _ _ _ a
theorem aC5 {f:Nat}{m:Mk}(g:HG m)(h:InvM f 0 m)(e:Nat)(who:List Nat)(c: ∀x∈who,x<m.datas.length)(a:who.length≤16)(d:m.b.length≤1000000): ∀i,i≤who.length→HG (Mk.markAll e m (who.take i))
 |0,_=>by rw[show Mk.markAll e m (who.take 0)=m by rw[List.take_zero];rfl];exact g
 |i+1,hi=>by
  obtain⟨h1,h2,h3,h4,h5,h6,h7⟩:=aAL h e who c a i (by omega)
  rw[aBk e m who i (by omega)]
  exact aON (aC5 g h e who c a d i (by omega)) e _ (by omega)
theorem aEV (m:Mk)(n:Nat)(c real mono:Int)(d:Nat→Int)(te:Nat)(i:Nat)(g:i≠8):(Mk.told m n c real mono d te).h.N i=if i=14 then mono else if i=13 then real else if i=9 then c else if n=0∧i=12 then real else if n=0∧i=10 then c else m.h.N i:=by
 unfold Mk.told setN
 dsimp only
 by_cases b:i=14
 ·simp[b]
 rw[if_neg b,if_neg b]
 by_cases a:i=13
 ·simp[a]
 rw[if_neg a,if_neg a]
 by_cases e:i=9
 ·simp[e]
 rw[if_neg e,if_neg e,if_neg g]
 by_cases f:n=0
 ·simp[f]
 ·simp[f]
theorem aOO {m:Mk}(h:HG m)(n:Nat)(g real mono:Int)(K:Nat→Int)(te:Nat)(hs:0≤g∧g≤18446744073709551615)(o:0≤real∧real≤18446744073709551615)(q:0≤mono∧mono≤18446744073709551615)(l:IdOk K)(p:te≤10000000):HG (Mk.told m n g real mono K te):=by
 have j: ∀i,i≠8→i≠14→i≠13→i≠9→i≠12→i≠10→(Mk.told m n g real mono K te).h.N i=m.h.N i:=fun i a b c d e f=>by
  rw[aEV _ _ _ _ _ _ _ _ a,if_neg b,if_neg c,if_neg d,if_neg (fun x=>e x.2),if_neg (fun x=>f x.2)]
 exact
  {n0:=(j 0 (by decide) (by decide) (by decide) (by decide) (by decide) (by decide)).trans h.n0
   n3:=(j 3 (by decide) (by decide) (by decide) (by decide) (by decide) (by decide)).trans h.n3
   n5:=(j 5 (by decide) (by decide) (by decide) (by decide) (by decide) (by decide)).trans h.n5
   cp:=by
    have e:(Mk.told m n g real mono K te).h.cp=m.h.cp:=by unfold Mk.told;dsimp only;split<;>rfl
    rw[e];exact h.cp
   ic:=by
    have e:(Mk.told m n g real mono K te).h.ic=m.h.ic:=by unfold Mk.told;dsimp only;split<;>rfl
    rw[e];exact h.ic
   I:=fun i=>by
    have e:(Mk.told m n g real mono K te).h.I i=if 32≤i∧i<48 then K (i-32)else m.h.I i:=by
     unfold Mk.told
     by_cases k:n=0
     ·rw[if_pos k];rfl
     ·rw[if_neg k];rfl
    rw[e]
    split
    ·exact l _
    ·exact h.I i
   nb:=fun i hi=>by
    rw[aEV _ _ _ _ _ _ _ _ (by omega)]
    repeat' split
    all_goals first|assumption|exact h.nb i hi
   ta:=by
    have e:(Mk.told m n g real mono K te).h.ta=m.h.ta:=by unfold Mk.told;dsimp only;split<;>rfl
    rw[e];exact h.ta
   ti:=by
    have e:(Mk.told m n g real mono K te).h.ti=m.h.ti:=by unfold Mk.told;dsimp only;split<;>rfl
    rw[e];exact h.ti
   te:=by
    show 0≤(te:Int)∧(te:Int)≤_
    omega}
theorem aGo {m:Mk}(h:Inv m)(g:HG m)(L:List PR)(F: ∀q∈L,AllB q.1∧AllB q.2∧q.1.length≤64∧q.2.length≤256)(r:L.length≤16)(hb:m.b.length≤32768)(real mono:Int)(K:Nat→Int)
 (hr:0≤real∧real≤18446744073709551615)(hm:0≤mono∧mono≤18446744073709551615)(R:IdOk K)(h9:m.h.N 9≠18446744073709551615):
 Inv (Mk.entered m L real mono K)∧HG (Mk.entered m L real mono K)∧(Mk.entered m L real mono K).C=m.C∧(Mk.entered m L real mono K).b=(Mk.grown m L real mono K).b∧(Mk.entered m L real mono K).h.N 9=m.h.N 9+1:=by
 have n9:=g.nb 9 (by omega)
 obtain⟨l,H,G,Z,n⟩:=aAs h L F L.length (yR _)
 have x:=aC4 g h L F r (by omega) L.length (yR _)
 rw[List.take_length]at l H G Z n x
 unfold Mk.entered Mk.grown
 dsimp only
 generalize aa:Mk.dataAll m L=s at*
 obtain⟨a,who⟩:=s
 dsimp only at*
 obtain⟨d,i,f,v⟩:=l.mn
 have o:(Mk.eobj a who (L.map fun q=>pay q.1 q.2) (m.h.N 9+1) real mono K).length%8=0∧0<(Mk.eobj a who (L.map fun q=>pay q.1 q.2) (m.h.N 9+1) real mono K).length∧(Mk.eobj a who (L.map fun q=>pay q.1 q.2) (m.h.N 9+1) real mono K).length≤400∧64≤(Mk.eobj a who (L.map fun q=>pay q.1 q.2) (m.h.N 9+1) real mono K).length:=by
  have e:=aDG a who (L.map fun q=>pay q.1 q.2) (m.h.N 9+1) real mono K
  omega
 generalize Mk.eobj a who (L.map fun q=>pay q.1 q.2) (m.h.N 9+1) real mono K=c at*
 obtain⟨e1,V,e3,e4⟩:=o
 have A:=aA7 l c e1 V
 have G2:=aBR x c (by omega)
 have I:=aAM a c
 have j:Chain (a.object c).b.length (a.object c).main d:=f.mono (by omega)
 have t:(a.object c).h.N 8=(d:Int):=i
 have B:=l.len
 have e8:(m.h.N 8).toNat=d:=by rw[←n.n8,i];rfl
 rw[e8]
 obtain⟨Y,g2,g3,E,g5,g6,g7⟩:=aBx A a.b.length d t j (by omega) (by omega)
 have X:=aGn G2 A a.b.length d j (by omega) (by omega)
 generalize Mk.linked (a.object c) a.b.length d=p at*
 have k:InvM a.b.length 0 p:=⟨Y,fun k' hk'=>by rw[E]at hk';exact(l.dat k' hk').2.2.2.2,by omega⟩
 have D: ∀y∈who,y<p.datas.length:=fun y hy=>by rw[E];exact G y hy
 obtain⟨u,k2,M,k4,z,k6,J⟩:=aAL k a.b.length who D (by omega) who.length (yR _)
 have w:=aC5 X k a.b.length who D (by omega) (by omega) who.length (yR _)
 rw[List.take_length]at u k2 M k4 z k6 J w
 refine⟨aM7 u.inv _ _ _ _ _ _,aOO w _ _ _ _ _ _ (by omega) hr hm R (by omega),?_,rfl,?_⟩
 ·show(Mk.markAll a.b.length p who).C=m.C
  rw[z,g5]
  exact n.C
 ·rw[aEV _ _ _ _ _ _ _ _ (by decide)]
  simp
end Ns
namespace Zd
open Bytes8 Ob Ga Ma Mg Na Nc Nh Fa Za Zb Zc
theorem aOP {b:List Int}{d:List O}(h:RepO b d){a j:Nat}{s:Sh}(hs:shp d a=some s)(r:j<s.n):u8 b (a+16+8*j)=wd d a j:=by
 obtain⟨o,f,i⟩:=aBm hs
 subst i
 have c:j<o.ws.length:=r
 obtain⟨p,q,t,v⟩:=aEy _ _ _ _ f
 have g:=h.ok o (aCn _ _ _ _ f)
 have w:(b.take 272).length=272:=by rw[List.length_take];have:=h.rep.len;omega
 have e:b=(b.take 272++p)++(o.enc++q):=by conv=>lhs;rw[h.rep.is,t,←List.append_assoc]
 rw[e,Nat.add_assoc,aDo _ _ a (16+8*j) (by rw[yA];omega)]
 have u:o.enc++q=front o.k o.body.length++(nums o.ws++(o.tl++List.replicate (padN o.body.length) 0++q)):=by
  unfold O.enc objB O.body
  simp
 rw[u,aDo _ _ 16 (8*j) (front_len _ _)]
 have l:wd d a j=o.ws.getD j 0:=by unfold wd;rw[f]
 rw[l]
 refine aD8 _ _ j c ?_
 have m:o.ws.getD j 0=o.ws[j]:=by simp[yG c]
 rw[m]
 exact g.ws _ (List.getElem_mem c)
theorem aPZ {b:List Int}{c:List O}(h:RepO b c){a j:Nat}:0≤wd c a j∧wd c a j≤18446744073709551615:=by
 unfold wd
 cases g:obj 272 c a with
 |none=>show(0:Int)≤0∧(0:Int)≤18446744073709551615;decide
 |some o=>
  have d:=h.ok o (aCn _ _ _ _ g)
  show 0≤o.ws.getD j 0∧o.ws.getD j 0≤_
  by_cases f:j<o.ws.length
  ·have e:o.ws.getD j 0=o.ws[j]:=by simp[yG f]
   rw[e]
   exact d.ws _ (List.getElem_mem f)
  ·have e:o.ws.getD j 0=0:=by simp[List.getElem?_eq_none (Nat.le_of_not_lt f)]
   rw[e];decide
def nameL (t:List Int):List Int:=t.takeWhile fun x=>x !=61
theorem aKJ (n v:List Int)(h: ∀x∈n,x≠61):nameL (pay n v)=n:=by
 unfold nameL pay
 rw[List.append_assoc,List.takeWhile_append_of_pos (fun x hx=>by simpa using h x hx)]
 simp
def byN (l:List Kn)(nm:List Int):List Nat:=((l.filter fun k=>nameL k.text==nm).map Kn.at_).reverse
theorem aIx (l:List Kn)(k:Kn)(a:List Int):byN (l++ [k]) a=if nameL k.text=a then k.at_::byN l a else byN l a:=by
 unfold byN
 rw[List.filter_append]
 by_cases h:nameL k.text=a
 ·simp[h]
 ·simp[h]
theorem aCi {l:List Kn}{b:List Int}{x:Nat}(h:x∈byN l b): ∃d∈l,nameL d.text=b∧d.at_=x:=by
 unfold byN at h
 rw[List.mem_reverse]at h
 obtain⟨d,a,e⟩:=List.mem_map.1 h
 rw[List.mem_filter]at a
 exact⟨d,a.1,by simpa using a.2,e⟩
structure DatW (m:Mk)(os:List O)(i:Nat)(d:Kn)(hs:List Nat):Prop where
 sh:shp os d.at_=some ⟨1,6,d.text,(1,i)⟩
 w0:wd os d.at_ 0=Mk.sum m d.text
 w3:wd os d.at_ 3=(hs.headD 0:Nat)
 w4:wd os d.at_ 4=(d.arrays.headD 0:Nat)
 w5:wd os d.at_ 5=(d.count:Nat)
 cnt:d.count=hs.length
 slot:d.slot=Mk.dslot m d.text
 arr:ArrW os (i+1) d.arrays hs.tail
structure FldW (m:Mk)(os:List O)(i:Nat)(f:Kn)(l:List Kn):Prop where
 sh:shp os f.at_=some ⟨2,3,f.text,(2,i)⟩
 w0:wd os f.at_ 0=Mk.sum m f.text
 slot:f.slot=Mk.fslot m f.text
 fol:Fol (fun x=>wd os x 2) (wd os f.at_ 2) (byN l f.text)
structure Hold (m:Mk)(os:List O)(hs:Nat→List Nat)(mi:List Nat)(es:List (Nat×List Int)):Prop where
 rep:RepO m.b os
 td:TabW os 272 4 m.C.ds m.datas
 tf:TabW os (288+16*m.C.ds) 5 m.C.fs m.fields
 dat: ∀i (h:i<m.datas.length),DatW m os i m.datas[i] (hs i)
 fld: ∀i (h:i<m.fields.length),FldW m os i m.fields[i] m.datas
 asc:Asc m.datas
 ascF:Asc m.fields
 ownF: ∀d∈m.datas,∃f∈m.fields,f.text=nameL d.text
 dtx:(m.datas.map Kn.text).Nodup
 ftx:(m.fields.map Kn.text).Nodup
 none: ∀i,m.datas.length≤i→hs i=[]
 mn:ArrW os 0 m.main mi
 ent: ∀i (h:i<es.length),shp os es[i].1=some ⟨3,0,es[i].2,(3,i)⟩
 cov: ∀x s,shp os x=some s→x=272∨x=288+16*m.C.ds∨(∃d∈m.datas,d.at_=x)∨(∃f∈m.fields,f.at_=x)∨(∃e∈es,e.1=x)∨s.k=6
theorem aEB {m m':Mk}(h:m'.C=m.C)(s:List Int):Mk.sum m' s=Mk.sum m s:=by unfold Mk.sum;rw[h]
theorem aHt {m m':Mk}(h:m'.C=m.C)(s:List Int):Mk.dslot m' s=Mk.dslot m s:=by unfold Mk.dslot;rw[h,aEB h]
theorem aEh {m m':Mk}(h:m'.C=m.C)(s:List Int):Mk.fslot m' s=Mk.fslot m s:=by unfold Mk.fslot;rw[h,aEB h]
theorem DatW.stp {m m':Mk}{os a:List O}{i:Nat}{d:Kn}{hs:List Nat}(h:DatW m os i d hs)(c:m'.C=m.C){S:Nat→Nat→Prop}(p:Stp os a S)(b: ∀j,j≠1→j≠2→ ¬S d.at_ j)(e: ∀x j k n,shp os x=some ⟨6,n,[],(i+1,k)⟩→ ¬S x j):DatW m' a i d hs:=
 {sh:=p.shp _ _ h.sh
  w0:=by rw[p.wd _ _ _ h.sh (b 0 (by decide) (by decide)),aEB c];exact h.w0
  w3:=by rw[p.wd _ _ _ h.sh (b 3 (by decide) (by decide))];exact h.w3
  w4:=by rw[p.wd _ _ _ h.sh (b 4 (by decide) (by decide))];exact h.w4
  w5:=by rw[p.wd _ _ _ h.sh (b 5 (by decide) (by decide))];exact h.w5
  cnt:=h.cnt
  slot:=by rw[aHt c];exact h.slot
  arr:=h.arr.stp p e}
def dataO (m:Mk)(s:List Int)(i:Nat):O:=⟨1,[Mk.sum m s,0,0,0,0,0],s,(1,i)⟩
def fieldO (m:Mk)(s:List Int)(i:Nat):O:=⟨2,[Mk.sum m s,0,0],s,(2,i)⟩
theorem aM9 (m:Mk){s:List Int}(i:Nat)(hs:AllB s)(b:s.length≤400):(dataO m s i).Ok:=
 {k:=⟨by show(1:Int)≤1;decide,by show(1:Int)≤7;decide⟩
  ws:=fun x hx=>by
   have a:=aF5 m.C.keyed (Cf.file m.C) s
   simp[dataO]at hx
   rcases hx with rfl|rfl
   ·exact a
   ·decide
  tl:=hs
  n:=by
   rw[O.body_len]
   show 8*6+s.length≤_
   omega}
theorem aKK (m:Mk){s:List Int}(i:Nat)(hs:AllB s)(b:s.length≤400):(fieldO m s i).Ok:=
 {k:=⟨by show(1:Int)≤2;decide,by show(2:Int)≤7;decide⟩
  ws:=fun x hx=>by
   have a:=aF5 m.C.keyed (Cf.file m.C) s
   simp[fieldO]at hx
   rcases hx with rfl|rfl
   ·exact a
   ·decide
  tl:=hs
  n:=by
   rw[O.body_len]
   show 8*3+s.length≤_
   omega}
theorem aIy {l:List Kn}{k:Kn}(h:Asc l)(e: ∀d∈l,d.at_<k.at_):Asc (l++ [k]):=by
 show((l++ [k]).map Kn.at_).Pairwise (· < ·)
 rw[List.map_append,List.pairwise_append]
 refine⟨h,by simp,fun a ha b hb=>?_⟩
 obtain⟨d,c,rfl⟩:=List.mem_map.1 ha
 simp at hb
 subst hb
 exact e d c
theorem Hold.dat_lt {m:Mk}{a:List O}{hs:Nat→List Nat}{j:List Nat}{f:List (Nat×List Int)}(h:Hold m a hs j f){d:Kn}(c:d∈m.datas): ∃i,shp a d.at_=some ⟨1,6,d.text,(1,i)⟩∧d.at_+64≤endO a:=by
 obtain⟨i,g,e⟩:=List.mem_iff_getElem.1 c
 have b:=(h.dat i g).sh
 rw[e]at b
 exact⟨i,b,by have:=aBn b;dsimp only at this;omega⟩
theorem Hold.fld_lt {m:Mk}{a:List O}{hs:Nat→List Nat}{j:List Nat}{f:List (Nat×List Int)}(h:Hold m a hs j f){d:Kn}(c:d∈m.fields): ∃i,shp a d.at_=some ⟨2,3,d.text,(2,i)⟩∧d.at_+40≤endO a:=by
 obtain⟨i,g,e⟩:=List.mem_iff_getElem.1 c
 have b:=(h.fld i g).sh
 rw[e]at b
 exact⟨i,b,by have:=aBn b;dsimp only at this;omega⟩
end Zd
namespace Ze
open Bytes8 Ob Ga Ma Mb Mg Na Nb Nc Nh Za Zb Zc Zd
variable {m : Mk} {os : List O} {hs : Nat → List Nat} {mi : List Nat} {es : List (Nat × List Int)}
structure Half (m:Mk)(os os2:List O)(b2:List Int)(s:List Int)(L:Nat):Prop where
 rep:RepO b2 os2
 td:TabW os2 272 4 m.C.ds (m.datas++ [⟨s,L,Mk.dslot m s,0,[]⟩])
 stp:Stp os os2 (fun x i=>x=272∨(i=1∧ ∃d∈m.datas,d.at_=x))
 new:shp os2 L=some ⟨1,6,s,(1,m.datas.length)⟩
 w: ∀i,i≠0→wd os2 L i=0
 w0:wd os2 L 0=Mk.sum m s
 old: ∀x q,shp os2 x=some q→x=L∨shp os x=some q
theorem aNa (h:Hold m os hs mi es){s:List Int}(r:AllB s)(v:s.length≤400)(t:0<m.C.ds)(J:m.b.length≤1000000): ∃os2,Half m os os2 (Mk.put1 m s).b s m.b.length:=by
 have y:=h.rep.size
 have r1:=h.rep.push (dataO m s m.datas.length) (aM9 m _ r v)
 have w:=aCT os (dataO m s m.datas.length)
 have w1:=aFS os (dataO m s m.datas.length)
 have z:=Stp.push os (dataO m s m.datas.length) (fun x i=>x=272∨(i=1∧ ∃d∈m.datas,d.at_=x))
 have G:=Stp.push os (dataO m s m.datas.length) (fun _ _=>False)
 rw[←y]at w w1
 generalize os++ [dataO m s m.datas.length]=p at*
 have a:shp p m.b.length=some ⟨1,6,s,(1,m.datas.length)⟩:=by rw[w,if_pos rfl];rfl
 have k: ∀d∈m.datas,(∃o,shp p d.at_=some o∧1<o.n)∧d.at_≠272∧d.at_<m.b.length:=fun d j=>by
  obtain⟨i,c,I⟩:=h.dat_lt j
  obtain⟨g,u⟩:=h.td.sh
  refine⟨⟨_,z.shp _ _ c,by dsimp only;decide⟩,fun e=>?_,by omega⟩
  rw[e,u]at c
  injection c with c
  injection c with c
  exact absurd c (by first|decide|(dsimp only;decide))
 have F:TabW p 272 4 m.C.ds m.datas:=h.td.stp G (fun _ h=>h) (fun d j=>by
  obtain⟨i,c,_⟩:=h.dat_lt j
  exact⟨⟨_,c⟩,fun h=>h⟩)
 obtain⟨g,u⟩:=h.td.sh
 have f:m.b.length≠272:=by have:=aBn u;omega
 obtain⟨D,H,o,B,E⟩:=aOq r1 F ⟨s,m.b.length,Mk.dslot m s,0,[]⟩ a (by first|decide|(dsimp only;decide)) (by rw[w1,if_pos rfl];rfl) f k h.asc (aIh t s) (by
  have:=(aBY m s)
  rw[yA]
  show m.b.length+(Mk.dobj m s).length≤_
  omega)
 have l: ∀i,wd D m.b.length i=wd p m.b.length i:=fun i=>o.wd _ _ _ a (by
  rintro(A|⟨_,d,j,A⟩)
  ·exact f A
  ·have:=(k d j).2.2;omega)
 refine⟨D,H,E,z.trans o,by rw[B];exact a,fun i hi=>?_,?_,fun x q hq=>?_⟩
 ·rw[l,w1,if_pos rfl]
  show [Mk.sum m s,0,0,0,0,0].getD i 0=0
  rcases i with _|_|_|_|_|_|i
  ·exact absurd rfl hi
  all_goals rfl
 ·rw[l,w1,if_pos rfl];rfl
 ·rw[B,w]at hq
  by_cases e:x=m.b.length
  ·exact .inl e
  ·rw[if_neg e]at hq;exact .inr hq
structure Full (m:Mk)(os os3:List O)(m3:Mk)(s nm:List Int)(L k:Nat):Prop where
 rep:RepO m3.b os3
 td:TabW os3 272 4 m.C.ds m3.datas
 tf:TabW os3 (288+16*m.C.ds) 5 m.C.fs m3.fields
 C:m3.C=m.C
 main:m3.main=m.main
 datas:m3.datas=m.datas++ [⟨s,L,Mk.dslot m s,0,[]⟩]
 stp:Stp os os3 (fun x i=>x=272∨x=288+16*m.C.ds∨(i=1∧((∃d∈m.datas,d.at_=x)∨ ∃d∈m.fields,d.at_=x)))
 new:shp os3 L=some ⟨1,6,s,(1,m.datas.length)⟩
 w: ∀i,i≠0→wd os3 L i=0
 w0:wd os3 L 0=Mk.sum m s
 asc:Asc m3.fields
 ftx:(m3.fields.map Kn.text).Nodup
 sub: ∀f∈m.fields,f∈m3.fields
 fld: ∀i (h:i<m3.fields.length),FldW m os3 i m3.fields[i] m.datas
 k: ∃i,∃h:i<m3.fields.length,m3.fields[i].text=nm∧m3.fields[i].at_=k
 old: ∀x q,shp os3 x=some q→x=L∨(∃f∈m3.fields,f.at_=x)∨shp os x=some q
theorem k_ne {a:List O}{x y:Nat}{s t:Sh}(h:shp a x=some s)(k:shp a y=some t)(b:s.k≠t.k):x≠y:=fun e=>by
 rw[e,k]at h
 injection h with h
 exact b (by rw[h])
theorem aNb (h:Hold m os hs mi es)(I:Inv m){s l:List Int}(aj:AllB s)(am:s.length≤400)(hn:AllB l)(ax:l.length≤64)(av:nameL s=l)(hb:m.b.length≤1000000):
 ∃os3,Full m os os3 (Mk.fieldOf (Mk.put1 m s) l).2 s l m.b.length (Mk.fieldOf (Mk.put1 m s) l).1:=by
 obtain⟨u,H⟩:=aNa h aj am I.ds.1 hb
 have au:=h.rep.size
 have ai:=H.rep.size
 have ar:=aCx I s
 have ay:=aBY m s
 obtain⟨g4,hg4⟩:=h.td.sh
 obtain⟨g5,hg5⟩:=h.tf.sh
 have hL: ∀ {x:Nat} {q:Sh},shp os x=some q→x≠m.b.length:=fun hx=>by have:=aBn hx;omega
 have ah:TabW u (288+16*m.C.ds) 5 m.C.fs m.fields:=h.tf.stp H.stp (fun i c=>by
  rcases c with c|⟨_,d,o,c⟩
  ·omega
  ·obtain⟨j,p,_⟩:=h.dat_lt o
   exact k_ne p hg5 (by first|decide|(dsimp only;decide)) c) (fun d o=>by
  obtain⟨j,p,_⟩:=h.fld_lt o
  refine⟨⟨_,p⟩,?_⟩
  rintro(c|⟨_,e,he,c⟩)
  ·exact k_ne p hg4 (by first|decide|(dsimp only;decide)) c
  ·obtain⟨j2,v,_⟩:=h.dat_lt he
   exact k_ne v p (by first|decide|(dsimp only;decide)) c)
 have R: ∀i (B:i<m.fields.length),FldW m u i m.fields[i] m.datas:=fun i B=>by
  have F:=h.fld i B
  have V: ∀j,j≠1→ ∀x q,shp os x=some q→q.k≠4→wd u x j=wd os x j:=fun j hj x q hx D=>H.stp.wd _ _ _ hx (by
   rintro(c|⟨c,_⟩)
   ·rw[c,hg4]at hx
    injection hx with hx
    rw[←hx]at D
    exact D rfl
   ·exact hj c)
  exact
   {sh:=H.stp.shp _ _ F.sh
    w0:=by rw[V 0 (by first|decide|(dsimp only;decide)) _ _ F.sh (by first|decide|(dsimp only;decide))];exact F.w0
    slot:=F.slot
    fol:=by
     rw[V 2 (by first|decide|(dsimp only;decide)) _ _ F.sh (by first|decide|(dsimp only;decide))]
     refine Fol.cong _ _ F.fol (fun x hx=>?_)
     obtain⟨d,o,_,e⟩:=aCi hx
     obtain⟨j,p,_⟩:=h.dat_lt o
     rw[←e]
     exact V 2 (by first|decide|(dsimp only;decide)) _ _ p (by first|decide|(dsimp only;decide))}
 unfold Mk.fieldOf
 have e1:(Mk.put1 m s).fields=m.fields:=rfl
 rw[e1]
 cases hf:findK m.fields l with
 |some kn=>
  dsimp only
  have hm:=aF7 hf
  have ak:kn.text=l:=by
   unfold findK at hf
   have:=List.find?_some hf
   simpa using this
  obtain⟨i,B,e⟩:=List.mem_iff_getElem.1 hm
  exact⟨u,
   {rep:=H.rep,td:=H.td,tf:=ah,C:=rfl,main:=rfl,datas:=rfl
    stp:=H.stp.mono fun x j _ _ c=>by
     rcases c with c|⟨c,p⟩
     ·exact .inl c
     ·exact .inr (.inr ⟨c,.inl p⟩)
    new:=H.new,w:=H.w,w0:=H.w0,asc:=h.ascF,ftx:=h.ftx,sub:=fun f hf=>hf,fld:=R
    k:=⟨i,B,by show m.fields[i].text=l;rw[e];exact ak,by show m.fields[i].at_=kn.at_;rw[e]⟩
    old:=fun x q D=>(H.old x q D).imp id .inr}⟩
 |none=>
  dsimp only
  have A: ∀f∈m.fields,f.text≠l:=fun f t=>by
   unfold findK at hf
   have:=List.find?_eq_none.1 hf f t
   simpa using this
  have J:byN m.datas l=[]:=by
   cases ao:byN m.datas l with
   |nil=>rfl
   |cons x r=>
    obtain⟨d,o,c,_⟩:=aCi (show x∈byN m.datas l by rw[ao];exact List.mem_cons_self ..)
    obtain⟨f,t,p⟩:=h.ownF d o
    exact absurd (p.trans c) (A f t)
  have aq:(Mk.put1 m s).b.length≤2000000:=by omega
  have aw:=aFk (Mk.put1 m s) l
  generalize Z:Mk.put1 m s=g at*
  have L:g.C=m.C:=by rw[←Z];rfl
  have ad:g.datas=m.datas++ [⟨s,m.b.length,Mk.dslot m s,0,[]⟩]:=by rw[←Z];rfl
  have y:g.fields=m.fields:=e1
  have ac:g.main=m.main:=by rw[←Z];rfl
  have r1:=H.rep.push (fieldO g l m.fields.length) (aKK g _ hn (by omega))
  have q1:=aCT u (fieldO g l m.fields.length)
  have w1:=aFS u (fieldO g l m.fields.length)
  have X:=Stp.push u (fieldO g l m.fields.length) (fun _ _=>False)
  rw[←ai]at q1 w1
  generalize u++ [fieldO g l m.fields.length]=o1 at*
  have N: ∀ {x:Nat} {q:Sh},shp u x=some q→x<g.b.length:=fun hx=>by have:=aBn hx;omega
  have E:shp o1 g.b.length=some ⟨2,3,l,(2,m.fields.length)⟩:=by rw[q1,if_pos rfl];rfl
  have aa: ∀d∈m.fields,(∃s2,shp o1 d.at_=some s2∧1<s2.n)∧d.at_≠288+16*m.C.ds∧d.at_<g.b.length:=fun d o=>by
   obtain⟨i,c,p⟩:=h.fld_lt o
   have v:=H.stp.shp _ _ c
   exact⟨⟨_,X.shp _ _ v,by dsimp only;decide⟩,k_ne c hg5 (by first|decide|(dsimp only;decide)),N v⟩
  have an:TabW o1 (288+16*m.C.ds) 5 m.C.fs m.fields:=ah.stp X (fun _ h=>h) (fun d o=>by
   obtain⟨i,c,_⟩:=h.fld_lt o
   exact⟨⟨_,H.stp.shp _ _ c⟩,fun h=>h⟩)
  have G:=H.stp.shp _ _ hg5
  have ap:=H.stp.shp _ _ hg4
  obtain⟨M,r3,s3,q3,t3⟩:=aOq r1 an ⟨l,g.b.length,Mk.fslot g l,0,[]⟩ E (by first|decide|(dsimp only;decide)) (by rw[w1,if_pos rfl];rfl) (by have:=N G;dsimp only;omega) aa h.ascF (by rw[aEh L];exact aIi I.fs.1 l) (by
   rw[yA]
   show g.b.length+(Mk.fobj g l).length≤_
   omega)
  have Y: ∀x q,shp u x=some q→shp M x=some q:=fun x q hx=>by rw[q3];exact X.shp _ _ hx
  have z: ∀x i q,shp u x=some q→q.k≠5→ ¬(i=1∧q.k=2)→wd M x i=wd u x i:=fun x i q hx D B=>by
   rw[s3.wd x i q (X.shp _ _ hx) (by
    rintro(c|⟨c,d,o,p⟩)
    ·rw[c,G]at hx
     injection hx with hx
     rw[←hx]at D
     exact D rfl
    ·obtain⟨j,v,_⟩:=h.fld_lt o
     have h4:=H.stp.shp _ _ v
     rw[p,hx]at h4
     injection h4 with h4
     exact B ⟨c,by rw[h4]⟩)]
   rw[w1,if_neg (by have:=N hx;omega)]
  have ag: ∀i,wd M g.b.length i=[Mk.sum g l,0,0].getD i 0:=fun i=>by
   rw[s3.wd _ _ _ E (by
    rintro(c|⟨_,d,o,c⟩)
    ·have:=N G;omega
    ·have:=(aa d o).2.2;omega),w1,if_pos rfl]
   rfl
  refine⟨M,
   {rep:=?_,td:=?_,tf:=?_,C:=L,main:=ac,datas:=ad,stp:=?_
    new:=Y _ _ H.new
    w:=fun i B=>by rw[z _ _ _ H.new (by first|decide|(dsimp only;decide)) (fun h=>absurd h.2 (by first|decide|(dsimp only;decide)))];exact H.w i B
    w0:=by rw[z _ _ _ H.new (by first|decide|(dsimp only;decide)) (fun h=>absurd h.2 (by first|decide|(dsimp only;decide)))];exact H.w0
    asc:=?_,ftx:=?_,sub:=?_,fld:=?_,k:=?_,old:=?_}⟩
  ·show RepO (hung (g.b++Mk.fobj g l) m.fields (Mk.tf g) g.b.length (Mk.fslot g l)) M
   have e2:Mk.tf g=288+16*m.C.ds+16:=by unfold Mk.tf;rw[L];omega
   rw[e2]
   exact r3
  ·show TabW M 272 4 m.C.ds g.datas
   rw[ad]
   have t0:=H.td.stp X (fun _ h=>h) (fun d o=>by
    rcases List.mem_append.1 o with o|o
    ·obtain⟨i,c,_⟩:=h.dat_lt o
     exact⟨⟨_,H.stp.shp _ _ c⟩,fun h=>h⟩
    ·rw[List.mem_singleton]at o
     subst o
     exact⟨⟨_,H.new⟩,fun h=>h⟩)
   refine t0.stp s3 (fun i c=>?_) (fun d o=>?_)
   ·rcases c with c|⟨_,f,t,c⟩
    ·omega
    ·obtain⟨j,p,_⟩:=h.fld_lt t
     exact k_ne p hg4 (by first|decide|(dsimp only;decide)) c
   ·rcases List.mem_append.1 o with o|o
    ·obtain⟨i,c,_⟩:=h.dat_lt o
     refine⟨⟨_,X.shp _ _ (H.stp.shp _ _ c)⟩,?_⟩
     rintro(v|⟨_,f,t,v⟩)
     ·exact k_ne c hg5 (by first|decide|(dsimp only;decide)) v
     ·obtain⟨j,p,_⟩:=h.fld_lt t
      exact k_ne p c (by first|decide|(dsimp only;decide)) v
    ·rw[List.mem_singleton]at o
     subst o
     refine⟨⟨_,X.shp _ _ H.new⟩,?_⟩
     rintro(v|⟨_,f,t,v⟩)
     ·exact hL hg5 v.symm
     ·obtain⟨j,p,_⟩:=h.fld_lt t
      exact hL p v
  ·show TabW M (288+16*m.C.ds) 5 m.C.fs (g.fields++ [⟨l,g.b.length,Mk.fslot g l,0,[]⟩])
   rw[y]
   exact t3
  ·refine⟨fun x q hx=>Y _ _ (H.stp.shp _ _ hx),fun x i q hx hS=>?_⟩
   rw[z x i q (H.stp.shp _ _ hx) (fun e=>?_) (fun e=>?_),H.stp.wd x i q hx]
   ·rintro(c|⟨c,p⟩)
    ·exact hS (.inl c)
    ·exact hS (.inr (.inr ⟨c,.inl p⟩))
   ·rcases h.cov x q hx with c|c|⟨d,o,c⟩|⟨d,o,c⟩|⟨d,o,c⟩|c
    ·exact hS (.inl c)
    ·exact hS (.inr (.inl c))
    ·obtain⟨j,p,_⟩:=h.dat_lt o
     rw[c,hx]at p;injection p with p;rw[p]at e;cases e
    ·obtain⟨j,p,_⟩:=h.fld_lt o
     rw[c,hx]at p;injection p with p;rw[p]at e;cases e
    ·obtain⟨j,hj,p⟩:=List.mem_iff_getElem.1 o
     have v:=h.ent j hj
     rw[p,c,hx]at v;injection v with v;rw[v]at e;cases e
    ·rw[c]at e;cases e
   ·rcases h.cov x q hx with c|c|⟨d,o,c⟩|⟨d,o,c⟩|⟨d,o,c⟩|c
    ·exact hS (.inl c)
    ·exact hS (.inr (.inl c))
    ·exact hS (.inr (.inr ⟨e.1,.inl ⟨d,o,c⟩⟩))
    ·exact hS (.inr (.inr ⟨e.1,.inr ⟨d,o,c⟩⟩))
    ·obtain⟨j,hj,p⟩:=List.mem_iff_getElem.1 o
     have v:=h.ent j hj
     rw[p,c,hx]at v;injection v with v;rw[v]at e;cases e.2
    ·rw[c]at e;cases e.2
  ·show Asc (g.fields++ [(⟨l,g.b.length,Mk.fslot g l,0,[]⟩:Kn)])
   rw[y]
   exact aIy h.ascF (fun d o=>(aa d o).2.2)
  ·show((g.fields++ [(⟨l,g.b.length,Mk.fslot g l,0,[]⟩:Kn)]).map Kn.text).Nodup
   rw[y,List.map_append,List.nodup_append]
   refine⟨h.ftx,by simp,fun a ha b hb2=>?_⟩
   obtain⟨f,t,rfl⟩:=List.mem_map.1 ha
   simp at hb2
   subst hb2
   exact A f t
  ·intro f t
   show f∈g.fields++ [_]
   rw[y]
   exact List.mem_append_left _ t
  ·intro i B
   have ab:i<(m.fields++ [(⟨l,g.b.length,Mk.fslot g l,0,[]⟩:Kn)]).length:=by rw[←y];exact B
   have ae:(Mk.named g m.fields (Mk.tf g) l).fields[i]'B=(m.fields++ [(⟨l,g.b.length,Mk.fslot g l,0,[]⟩:Kn)])[i]'ab:=by
    show(g.fields++ [_])[i]'_=_
    simp only[y]
   rw[ae]
   by_cases af:i<m.fields.length
   ·rw[List.getElem_append_left af]
    have F:=R i af
    exact
     {sh:=Y _ _ F.sh
      w0:=by rw[z _ _ _ F.sh (by first|decide|(dsimp only;decide)) (fun h=>absurd h.1 (by first|decide|(dsimp only;decide)))];exact F.w0
      slot:=F.slot
      fol:=by
       rw[z _ _ _ F.sh (by first|decide|(dsimp only;decide)) (fun h=>absurd h.1 (by first|decide|(dsimp only;decide)))]
       refine Fol.cong _ _ F.fol (fun x hx=>?_)
       obtain⟨d,o,_,e⟩:=aCi hx
       obtain⟨j,p,_⟩:=h.dat_lt o
       rw[←e]
       exact z _ _ _ (H.stp.shp _ _ p) (by first|decide|(dsimp only;decide)) (fun h=>absurd h.1 (by first|decide|(dsimp only;decide)))}
   ·have al:i=m.fields.length:=by rw[yA,List.length_singleton]at ab;omega
    subst al
    rw[List.getElem_append_right (yR _)]
    simp only[Nat.sub_self,List.getElem_singleton]
    exact
     {sh:=by rw[q3];exact E
      w0:=by
       show wd M g.b.length 0=_
       rw[ag,←aEB L];rfl
      slot:=by
       show Mk.fslot g l=Mk.fslot m l
       exact aEh L l
      fol:=by
       show Fol _ (wd M g.b.length 2) (byN m.datas l)
       rw[J,ag];rfl}
  ·refine⟨m.fields.length,?_,?_,?_⟩
   ·show _<(g.fields++ [_]).length
    rw[y,yA,List.length_singleton];omega
   ·show((g.fields++ [_])[m.fields.length]'_).text=l
    simp[y]
   ·show((g.fields++ [_])[m.fields.length]'_).at_=g.b.length
    simp[y]
  ·intro x q D
   rw[q3,q1]at D
   by_cases e:x=g.b.length
   ·refine .inr (.inl ⟨⟨l,g.b.length,Mk.fslot g l,0,[]⟩,?_,e.symm⟩)
    show _∈g.fields++ [_]
    exact List.mem_append_right _ (List.mem_singleton.2 rfl)
   ·rw[if_neg e]at D
    exact(H.old x q D).imp id .inr
theorem aNc (h:Hold m os hs mi es)(I:Inv m){s Y:List Int}(ah:AllB s)(am:s.length≤400)(hn:AllB Y)(ao:Y.length≤64)(M:nameL s=Y)(N: ∀d∈m.datas,d.text≠s)(hb:m.b.length≤1000000):
 ∃os',Hold (Mk.dataNew m Y s) os' hs mi es:=by
 obtain⟨B,F⟩:=aNb h I ah am hn ao M hb
 have av:=h.rep.size
 unfold Mk.dataNew
 generalize ax:(Mk.fieldOf (Mk.put1 m s) Y).2=l at*
 generalize au:(Mk.fieldOf (Mk.put1 m s) Y).1=k at*
 obtain⟨i,hi,ht,hk⟩:=F.k
 have G:=F.fld i hi
 have p:=G.sh
 rw[hk]at p
 have ap:m.b.length≠k:=k_ne F.new p (by first|decide|(dsimp only;decide))
 have e1:=aOP F.rep p (j:=2) (by first|decide|(dsimp only;decide))
 have e2:k+16+8*2=k+32:=by omega
 rw[e2]at e1
 have r1:=F.rep.put F.new (j:=2) (x:=m.b.length+32) (by first|decide|(dsimp only;decide)) (by omega) (aPZ F.rep (a:=k) (j:=2))
 have q1:=fun x=>aAU B m.b.length 2 x (wd B k 2)
 have w1:=aBz F.new (j:=2) (by first|decide|(dsimp only;decide)) (wd B k 2)
 generalize aw:upd 272 B m.b.length (O.setW 2 (wd B k 2))=o4 at*
 have V:shp o4 k=some ⟨2,3,l.fields[i].text,(2,i)⟩:=by rw[q1];exact p
 have r2:=r1.put V (j:=2) (x:=k+32) (by first|decide|(dsimp only;decide)) (by omega) (v:=(m.b.length:Int)) (by omega)
 have q2:=fun x=>aAU o4 k 2 x (m.b.length:Int)
 have w2:=aBz V (j:=2) (by first|decide|(dsimp only;decide)) (m.b.length:Int)
 generalize ay:upd 272 o4 k (O.setW 2 (m.b.length:Int))=r at*
 have hq: ∀x,shp r x=shp B x:=fun x=>by rw[q2,q1]
 have Z: ∀x j,wd r x j=if x=k∧j=2 then(m.b.length:Int)else if x=m.b.length∧j=2 then wd B k 2 else wd B x j:=fun x j=>by rw[w2,w1]
 have st:Stp B r (fun x j=>j=2∧(x=k∨x=m.b.length)):=⟨fun x q o=>by rw[hq];exact o,fun x j q _ D=>by rw[Z,if_neg (fun h=>D ⟨h.2,.inl h.1⟩),if_neg (fun h=>D ⟨h.2,.inr h.1⟩)]⟩
 have af: ∀d∈m.datas,d.at_<m.b.length:=fun d g=>by obtain⟨j,_,u⟩:=h.dat_lt g;omega
 obtain⟨g4,H⟩:=h.td.sh
 obtain⟨g5,J⟩:=h.tf.sh
 have al: ∀x q,shp os x=some q→shp r x=some q:=fun x q o=>by rw[hq];exact F.stp.shp _ _ o
 refine⟨r,
  {rep:=?_,td:=?_,tf:=?_,dat:=?_,fld:=?_,asc:=?_,ascF:=F.asc,ownF:=?_,dtx:=?_,ftx:=F.ftx,none:=?_,mn:=?_
   ent:=fun j D=>al _ _ (h.ent j D),cov:=?_}⟩
 ·show RepO (put8 (put8 l.b (m.b.length+32) (u8 l.b (k+32))) (k+32) m.b.length) r
  rw[e1]
  exact r2
 ·show TabW r 272 4 l.C.ds l.datas
  rw[F.C]
  refine F.td.stp st (fun j D=>?_) (fun d g=>⟨?_,fun h=>absurd h.1 (by decide)⟩)
  ·rcases D.2 with c|c
   ·exact k_ne (F.stp.shp _ _ H) p (by first|decide|(dsimp only;decide)) c
   ·have:=aBn H;omega
  ·rw[F.datas]at g
   rcases List.mem_append.1 g with g|g
   ·obtain⟨j,u,_⟩:=h.dat_lt g
    exact⟨_,F.stp.shp _ _ u⟩
   ·rw[List.mem_singleton]at g
    subst g
    exact⟨_,F.new⟩
 ·show TabW r (288+16*l.C.ds) 5 l.C.fs l.fields
  rw[F.C]
  refine F.tf.stp st (fun j D=>?_) (fun d g=>⟨?_,fun h=>absurd h.1 (by decide)⟩)
  ·rcases D.2 with c|c
   ·exact k_ne (F.stp.shp _ _ J) p (by first|decide|(dsimp only;decide)) c
   ·exact k_ne (F.stp.shp _ _ J) F.new (by first|decide|(dsimp only;decide)) c
  ·obtain⟨j,D,e⟩:=List.mem_iff_getElem.1 g
   exact⟨_,e▸(F.fld j D).sh⟩
 ·intro i hi
  have an:(Mk.put2 l m.b.length k).C=m.C:=F.C
  have A:i<(m.datas++ [(⟨s,m.b.length,Mk.dslot m s,0,[]⟩:Kn)]).length:=by rw[←F.datas];exact hi
  have ad:(Mk.put2 l m.b.length k).datas[i]'hi=(m.datas++ [(⟨s,m.b.length,Mk.dslot m s,0,[]⟩:Kn)])[i]'A:=by
   show l.datas[i]'_=_
   simp only[F.datas]
  rw[ad]
  by_cases ae:i<m.datas.length
  ·rw[List.getElem_append_left ae]
   have t:=h.dat i ae
   have ac: ∀q,shp os m.datas[i].at_=some q→m.datas[i].at_≠272∧m.datas[i].at_≠288+16*m.C.ds:=fun q hq=>⟨k_ne t.sh H (by first|decide|(dsimp only;decide)),k_ne t.sh J (by first|decide|(dsimp only;decide))⟩
   have p3:DatW m B i m.datas[i] (hs i):=t.stp rfl F.stp (fun j hj1 hj2 hS=>by
    rcases hS with c|c|⟨c,_⟩
    ·exact(ac _ t.sh).1 c
    ·exact(ac _ t.sh).2 c
    ·exact hj1 c) (fun x j k2 n o hS=>by
    rcases hS with c|c|⟨c,⟨d,g,u⟩|⟨d,g,u⟩⟩
    ·exact k_ne o H (by first|decide|(dsimp only;decide)) c
    ·exact k_ne o J (by first|decide|(dsimp only;decide)) c
    ·obtain⟨j2,E,_⟩:=h.dat_lt g
     exact k_ne E o (by first|decide|(dsimp only;decide)) u
    ·obtain⟨j2,E,_⟩:=h.fld_lt g
     exact k_ne E o (by first|decide|(dsimp only;decide)) u)
   exact p3.stp an st (fun j _ hj2 hS=>hj2 hS.1) (fun x j k2 n o hS=>by
    rcases hS.2 with c|c
    ·exact k_ne o p (by first|decide|(dsimp only;decide)) c
    ·exact k_ne o F.new (by first|decide|(dsimp only;decide)) c)
  ·have L:i=m.datas.length:=by rw[yA,List.length_singleton]at A;omega
   subst L
   rw[List.getElem_append_right (yR _)]
   simp only[Nat.sub_self,List.getElem_singleton]
   have R: ∀j,j≠2→wd r m.b.length j=wd B m.b.length j:=fun j D=>st.wd _ _ _ F.new (fun h=>D h.1)
   have hh:=h.none m.datas.length (yR _)
   exact
    {sh:=by rw[hq];exact F.new
     w0:=by
      show wd r m.b.length 0=_
      rw[R 0 (by decide),F.w0]
      exact(aEB F.C s).symm
     w3:=by
      show wd r m.b.length 3=_
      rw[R 3 (by decide),F.w 3 (by decide),hh];rfl
     w4:=by
      show wd r m.b.length 4=_
      rw[R 4 (by decide),F.w 4 (by decide)];rfl
     w5:=by
      show wd r m.b.length 5=_
      rw[R 5 (by decide),F.w 5 (by decide)];rfl
     cnt:=by rw[hh];rfl
     slot:=(aHt F.C s).symm
     arr:=by rw[hh];exact ArrW.nil _ _}
 ·intro z A
  have aa:z<l.fields.length:=A
  have ak:(Mk.put2 l m.b.length k).fields[z]'A=l.fields[z]:=rfl
  rw[ak]
  have t:=F.fld z aa
  have X: ∀d∈m.datas,wd r d.at_ 2=wd B d.at_ 2:=fun d g=>by
   obtain⟨j,u,_⟩:=h.dat_lt g
   have E:=F.stp.shp _ _ u
   rw[Z,if_neg (fun h4=>k_ne E p (by first|decide|(dsimp only;decide)) h4.1),if_neg (fun h4=>by have:=af d g;omega)]
  have aj:l.fields[z].at_≠m.b.length:=k_ne t.sh F.new (by first|decide|(dsimp only;decide))
  have ab:(Mk.put2 l m.b.length k).datas=m.datas++ [⟨s,m.b.length,Mk.dslot m s,0,[]⟩]:=F.datas
  rw[ab]
  by_cases L:z=i
  ·subst L
   exact
    {sh:=by rw[hq];exact t.sh
     w0:=by
      rw[Z,if_neg (fun h4=>absurd h4.2 (by decide)),if_neg (fun h4=>absurd h4.2 (by decide)),t.w0]
      exact(aEB F.C _).symm
     slot:=t.slot.trans (aEh F.C _).symm
     fol:=by
      rw[aIx,if_pos (M.trans ht.symm),Z,hk,if_pos ⟨rfl,rfl⟩]
      refine⟨rfl,?_⟩
      show Fol (fun x=>wd r x 2) (wd r m.b.length 2) _
      rw[Z,if_neg (fun h4=>ap h4.1),if_pos ⟨rfl,rfl⟩]
      have y:=t.fol
      rw[hk]at y
      refine Fol.cong _ _ y (fun x o=>?_)
      obtain⟨d,g,_,e⟩:=aCi o
      rw[←e]
      exact X d g}
  ·have ai:l.fields[z].at_≠k:=fun e=>by
    have y:=t.sh
    rw[e,p]at y
    injection y with y
    injection y with _ _ _ y
    injection y with _ y
    exact L y.symm
   have ar:Y≠l.fields[z].text:=fun e=>by
    have y:=List.pairwise_iff_getElem.1 F.ftx
    rcases Nat.lt_or_ge z i with h6|h6
    ·have h7:=y z i (by simpa using aa) (by simpa using hi) h6
     rw[List.getElem_map,List.getElem_map,ht]at h7
     exact h7 e.symm
    ·have h7:=y i z (by simpa using hi) (by simpa using aa) (by omega)
     rw[List.getElem_map,List.getElem_map,ht]at h7
     exact h7 e
   exact
    {sh:=by rw[hq];exact t.sh
     w0:=by
      rw[Z,if_neg (fun h4=>absurd h4.2 (by decide)),if_neg (fun h4=>absurd h4.2 (by decide)),t.w0]
      exact(aEB F.C _).symm
     slot:=t.slot.trans (aEh F.C _).symm
     fol:=by
      rw[aIx,if_neg (fun e=>ar (M.symm.trans e)),Z,if_neg (fun h4=>ai h4.1),if_neg (fun h4=>aj h4.1)]
      refine Fol.cong _ _ t.fol (fun x o=>?_)
      obtain⟨d,g,_,e⟩:=aCi o
      rw[←e]
      exact X d g}
 ·show Asc l.datas
  rw[F.datas]
  exact aIy h.asc af
 ·intro d g
  have ag:d∈m.datas++ [(⟨s,m.b.length,Mk.dslot m s,0,[]⟩:Kn)]:=by rw[←F.datas];exact g
  rcases List.mem_append.1 ag with c|c
  ·obtain⟨f,u,E⟩:=h.ownF d c
   exact⟨f,F.sub f u,E⟩
  ·rw[List.mem_singleton]at c
   subst c
   exact⟨l.fields[i],List.getElem_mem hi,ht.trans M.symm⟩
 ·show(l.datas.map Kn.text).Nodup
  rw[F.datas,List.map_append,List.nodup_append]
  refine⟨h.dtx,by simp,fun a ha b hb2=>?_⟩
  obtain⟨f,aq,rfl⟩:=List.mem_map.1 ha
  simp at hb2
  subst hb2
  exact N f aq
 ·intro z A
  have e3:(Mk.put2 l m.b.length k).datas.length=m.datas.length+1:=by
   show l.datas.length=_
   rw[F.datas,yA,List.length_singleton]
  exact h.none z (by omega)
 ·show ArrW r 0 l.main mi
  rw[F.main]
  refine(h.mn.stp F.stp (fun x j k2 n o hS=>?_)).stp st (fun x j k2 n o hS=>?_)
  ·rcases hS with c|c|⟨c,⟨d,g,u⟩|⟨d,g,u⟩⟩
   ·exact k_ne o H (by first|decide|(dsimp only;decide)) c
   ·exact k_ne o J (by first|decide|(dsimp only;decide)) c
   ·obtain⟨j2,E,_⟩:=h.dat_lt g
    exact k_ne E o (by first|decide|(dsimp only;decide)) u
   ·obtain⟨j2,E,_⟩:=h.fld_lt g
    exact k_ne E o (by first|decide|(dsimp only;decide)) u
  ·rcases hS.2 with c|c
   ·exact k_ne o p (by first|decide|(dsimp only;decide)) c
   ·exact k_ne o F.new (by first|decide|(dsimp only;decide)) c
 ·intro x q o
  rw[hq]at o
  show x=272∨x=288+16*l.C.ds∨(∃d∈l.datas,d.at_=x)∨(∃f∈l.fields,f.at_=x)∨_
  rw[F.C,F.datas]
  rcases F.old x q o with c|⟨f,hf,c⟩|c
  ·exact .inr (.inr (.inl ⟨_,List.mem_append_right _ (List.mem_singleton.2 rfl),c.symm⟩))
  ·exact .inr (.inr (.inr (.inl ⟨f,hf,c⟩)))
  ·rcases h.cov x q c with c|c|⟨d,g,c⟩|⟨d,g,c⟩|c
   ·exact .inl c
   ·exact .inr (.inl c)
   ·exact .inr (.inr (.inl ⟨d,List.mem_append_left _ g,c⟩))
   ·exact .inr (.inr (.inr (.inl ⟨d,F.sub d g,c⟩)))
   ·exact .inr (.inr (.inr (.inr c)))
end Ze
end Go.Proofs.YteaikbodkgjkdaaGreat
