/-
  Texts beneath the proof.
-/
import Derived.Test.YtlelnfokffflnaaGreatQl22
set_option linter.unusedVariables false
set_option linter.unusedSimpArgs false
set_option maxRecDepth 100000
open Go.ChangeShapes Go.WideShapes Go.ChangeAt Go.RowKit
namespace Go.Proofs.YtlelnfokffflnaaGreat
namespace Ns
open Bytes8 Blk8 Own8 OwnE LeA Ob Ga Ma Kf Mb Mc Mf Mg Fa Fb Yd Na Nb Nc Nd Nh Nl Pr8
def Free (i:Nat):Prop:=i=7∨i=8∨i=15∨i=16∨i=18∨i=19
structure HG (m:Mk):Prop where
 n0:m.h.N 0=272
 n3:m.h.N 3=16*(m.C.ds:Int)
 n5:m.h.N 5=16*(m.C.fs:Int)
 cp:m.h.cp=2
 ic:m.h.ic=0∨m.h.ic=4
 I: ∀i,0≤m.h.I i∧m.h.I i<256
 nb: ∀i,i=1∨i=6∨(9≤i∧i≤14)∨i=17∨20≤i→0≤m.h.N i∧m.h.N i≤18446744073709551615
 ta:0≤m.h.ta∧m.h.ta≤4294967295
 ti:0≤m.h.ti∧m.h.ti≤4294967295
 te:0≤m.h.te∧m.h.te≤18446744073709551615
theorem HG.turn {m m':Mk}(h:HG m)(k:m'.C=m.C)(j:m'.h.cp=m.h.cp)(g:m'.h.ic=m.h.ic)(n:m'.h.I=m.h.I)(f:m'.h.ta=m.h.ta)(c:m'.h.ti=m.h.ti)(d:m'.h.te=m.h.te)
 (b: ∀i,¬Free i→i≠6→m'.h.N i=m.h.N i)(l:0≤m'.h.N 6∧m'.h.N 6≤18446744073709551615):HG m':=
 {n0:=by rw[b 0 (by unfold Free;omega) (by decide)];exact h.n0
  n3:=by rw[b 3 (by unfold Free;omega) (by decide),k];exact h.n3
  n5:=by rw[b 5 (by unfold Free;omega) (by decide),k];exact h.n5
  cp:=j.trans h.cp
  ic:=by rw[g];exact h.ic
  I:=by rw[n];exact h.I
  nb:=fun i hi=>by
   by_cases e:i=6
   ·rw[e];exact l
   ·rw[b i (by unfold Free;omega) e];exact h.nb i hi
  ta:=by rw[f];exact h.ta
  ti:=by rw[c];exact h.ti
  te:=by rw[d];exact h.te}
theorem HG.bytes {m m':Mk}(h:HG m)(c:m'.C=m.C)(b:m'.h=m.h):HG m':=
 h.turn c (by rw[b]) (by rw[b]) (by rw[b]) (by rw[b]) (by rw[b]) (by rw[b]) (fun i _ _=>by rw[b]) (by rw[b];exact h.nb 6 (by omega))
theorem aBR {m:Mk}(h:HG m)(l:List Int)(c:m.b.length≤10000000):HG (m.object l):=
 h.turn rfl rfl rfl rfl rfl rfl rfl (fun i hf h6=>by
  show(setN (setN m.h 6 _) 7 _).N i=_
  rw[aA1 _ _ _ _ (by intro e;exact hf (by unfold Free;omega)),aA1 _ _ _ _ h6]) (by
  show 0≤(setN (setN m.h 6 _) 7 _).N 6∧(setN (setN m.h 6 _) 7 _).N 6≤_
  rw[aA1 _ _ _ _ (by decide),aBN]
  omega)
theorem aFz {m:Mk}(h:HG m)(i:Nat)(v:Int)(b:Free i):HG {m with h:=setN m.h i v}:=
 h.turn rfl rfl rfl rfl rfl rfl rfl (fun j hf h6=>aA1 _ _ _ _ (fun e=>hf (e▸b))) (by
  show 0≤(setN m.h i v).N 6∧(setN m.h i v).N 6≤_
  rw[aA1 _ _ _ _ (by intro e;unfold Free at b;omega)]
  exact h.nb 6 (by omega))
theorem aOM {m:Mk}(h:HG m)(s:List Int)(c:m.b.length≤10000000):HG (Mk.put1 m s):=
 HG.bytes (m:={m.object (Mk.dobj m s)with h:=setN (setN (m.object (Mk.dobj m s)).h 19 (max (m.h.N 19) (inSlot m.datas (Mk.dslot m s):Nat))) 15 (m.h.N 15+1)}) (aFz (aFz (aBR h _ c) 19 _ (by unfold Free;omega)) 15 _ (by unfold Free;omega)) rfl rfl
theorem aM8 {m:Mk}(h:HG m)(d:List Kn)(tf:Nat)(s:List Int)(c:m.b.length≤10000000):HG (Mk.named m d tf s):=
 HG.bytes (m:={m.object (Mk.fobj m s)with h:=setN (m.object (Mk.fobj m s)).h 16 (m.h.N 16+1)}) (aFz (aBR h _ c) 16 _ (by unfold Free;omega)) rfl rfl
theorem aJu {m:Mk}(h:HG m)(s:List Int)(c:m.b.length≤10000000):HG (Mk.fieldOf m s).2:=by
 unfold Mk.fieldOf
 split
 ·exact h
 ·exact aM8 h _ _ _ c
theorem aDG (m:Mk)(who:List Nat)(b:List (List Int))(s r c:Int)(K:Nat→Int):(Mk.eobj m who b s r c K).length=16+(48+16*who.length):=by
 unfold Mk.eobj
 rw[aBj,aDC]
 unfold padN
 omega
theorem aJv {m:Mk}(h:HG m)(I:Inv m)(c s:List Int)(hs:AllB s)(d:s.length≤400)(f:m.b.length≤9000000):HG (Mk.dataNew m c s):=by
 have g:=aCx I s
 obtain⟨j,i,k⟩:=aBY m s
 exact HG.bytes (m:=(Mk.fieldOf (Mk.put1 m s) c).2) (aJu (aOM h s (by omega)) c (by omega)) rfl rfl
theorem aKH {m:Mk}(h:HG m)(I:Inv m)(d s:List Int)(hs:AllB s)(c:s.length≤400)(f:m.b.length≤9000000):HG (Mk.dataOf m d s).2:=by
 unfold Mk.dataOf
 split
 ·exact h
 ·exact aJv h I d s hs c f
theorem aC4 {m:Mk}(h:HG m)(I:Inv m)(l:List PR)(c: ∀q∈l,AllB q.1∧AllB q.2∧q.1.length≤64∧q.2.length≤256)(d:l.length≤16)(i:m.b.length≤1000000): ∀k,k≤l.length→HG (Mk.dataAll m (l.take k)).1
 |0,_=>h
 |k+1,hk=>by
  obtain⟨h1,h2,h3,h4,h5⟩:=aAs I l c k (by omega)
  obtain⟨g,j,o,n⟩:=c l[k] (List.getElem_mem _)
  have f:(pay l[k].1 l[k].2).length≤400:=by rw[Nee.pay_len];omega
  rw[aA0 m l k (by omega)]
  exact aKH (aC4 h I l c d i k (by omega)) h1 _ _ (aBr g j) f (by omega)
theorem aKI {m:Mk}(h:HG m)(arr:List Nat)(n fr item:Nat)(c:m.b.length≤10000000):HG (Mk.link m arr n fr item).1:=by
 unfold Mk.link
 split
 ·exact HG.bytes (m:={m.object (aobj arr.length)with h:=setN (m.object (aobj arr.length)).h 18 (m.h.N 18+1)}) (aFz (aBR h _ c) 18 _ (by unfold Free;omega)) rfl rfl
 ·exact h.bytes rfl rfl
theorem aKJ {L:Nat}{arr:List Nat}{n:Nat}(h:Chain L arr n):arr.getD 0 0≤L∧arr.getLastD 0≤L:=by
 by_cases b:arr=[]
 ·subst b
  exact⟨Nat.zero_le _,Nat.zero_le _⟩
 ·have c:=List.length_pos_iff.2 b
  have f:=h.fits 0 c
  have d:=aA6 h b
  rw[List.getD_eq_getElem?_getD,List.getElem?_eq_getElem c]
  exact⟨by show arr[0]≤L;omega,by omega⟩
theorem aGo {m:Mk}(h:HG m)(I:Inv m)(item n:Nat)(f:Chain m.b.length m.main n)(u:m.b.length≤1000000)(d:184≤m.b.length):HG (Mk.linked m item n):=by
 obtain⟨p,k,t,A,x,s,q,o,y,l,g,j⟩:=aDD I (fr:=176) item f (by omega)
 obtain⟨r,z⟩:=aKJ k
 have c:=aKI h m.main n 176 item (by omega)
 exact
  {n0:=c.n0,n3:=c.n3,n5:=c.n5,cp:=c.cp,ic:=c.ic,I:=c.I,te:=c.te
   nb:=fun i hi=>by
    show 0≤(setN (Mk.link m m.main n 176 item).1.h 11 _).N i∧(setN (Mk.link m m.main n 176 item).1.h 11 _).N i≤_
    by_cases e:i=11
    ·subst e
     rw[aBN]
     omega
    ·rw[aA1 _ _ _ _ e]
     exact c.nb i hi
   ta:=by
    show 0≤(((Mk.link m m.main n 176 item).2.1.getLastD 0:Nat):Int)∧(((Mk.link m m.main n 176 item).2.1.getLastD 0:Nat):Int)≤_
    omega
   ti:=by
    show 0≤(((Mk.link m m.main n 176 item).2.2:Nat):Int)∧(((Mk.link m m.main n 176 item).2.2:Nat):Int)≤_
    omega}
theorem aON {m:Mk}(h:HG m)(e j:Nat)(c:m.b.length≤10000000):HG (Mk.mark e m j):=by
 rw[aC3]
 refine HG.bytes (m:=(Mk.hitched e m j).1) ?_ rfl rfl
 unfold Mk.hitched
 split
 ·exact h.bytes rfl rfl
 ·exact aKI h _ _ _ _ c
theorem aC5 {j:Nat}{m:Mk}(g:HG m)(h:InvM j 0 m)(e:Nat)(who:List Nat)(d: ∀x∈who,x<m.datas.length)(c:who.length≤16)(f:m.b.length≤1000000): ∀i,i≤who.length→HG (Mk.markAll e m (who.take i))
 |0,_=>by rw[show Mk.markAll e m (who.take 0)=m by rw[List.take_zero];rfl];exact g
 |i+1,hi=>by
  obtain⟨h1,h2,h3,h4,h5,h6,h7⟩:=aAL h e who d c i (by omega)
  rw[aBk e m who i (by omega)]
  exact aON (aC5 g h e who d c f i (by omega)) e _ (by omega)
theorem aEV (m:Mk)(n:Nat)(d real mono:Int)(f:Nat→Int)(te:Nat)(i:Nat)(k:i≠8):(Mk.told m n d real mono f te).h.N i=if i=14 then mono else if i=13 then real else if i=9 then d else if n=0∧i=12 then real else if n=0∧i=10 then d else m.h.N i:=by
 unfold Mk.told setN
 dsimp only
 by_cases c:i=14
 ·simp[c]
 rw[if_neg c,if_neg c]
 by_cases b:i=13
 ·simp[b]
 rw[if_neg b,if_neg b]
 by_cases g:i=9
 ·simp[g]
 rw[if_neg g,if_neg g,if_neg k]
 by_cases j:n=0
 ·simp[j]
 ·simp[j]
theorem aOO {m:Mk}(h:HG m)(n:Nat)(g real mono:Int)(K:Nat→Int)(te:Nat)(hs:0≤g∧g≤18446744073709551615)(p:0≤real∧real≤18446744073709551615)(o:0≤mono∧mono≤18446744073709551615)(l:IdOk K)(q:te≤10000000):HG (Mk.told m n g real mono K te):=by
 have j: ∀i,i≠8→i≠14→i≠13→i≠9→i≠12→i≠10→(Mk.told m n g real mono K te).h.N i=m.h.N i:=fun i a b c d e f=>by
  rw[aEV _ _ _ _ _ _ _ _ a,if_neg b,if_neg c,if_neg d,if_neg (fun x=>e x.2),if_neg (fun x=>f x.2)]
 exact
  {n0:=(j 0 (by decide) (by decide) (by decide) (by decide) (by decide) (by decide)).trans h.n0
   n3:=(j 3 (by decide) (by decide) (by decide) (by decide) (by decide) (by decide)).trans h.n3
   n5:=(j 5 (by decide) (by decide) (by decide) (by decide) (by decide) (by decide)).trans h.n5
   cp:=by
    have e:(Mk.told m n g real mono K te).h.cp=m.h.cp:=by unfold Mk.told;dsimp only;split<;>rfl
    rw[e];exact h.cp
   ic:=by
    have e:(Mk.told m n g real mono K te).h.ic=m.h.ic:=by unfold Mk.told;dsimp only;split<;>rfl
    rw[e];exact h.ic
   I:=fun i=>by
    have e:(Mk.told m n g real mono K te).h.I i=if 32≤i∧i<48 then K (i-32)else m.h.I i:=by
     unfold Mk.told
     by_cases k:n=0
     ·rw[if_pos k];rfl
     ·rw[if_neg k];rfl
    rw[e]
    split
    ·exact l _
    ·exact h.I i
   nb:=fun i hi=>by
    rw[aEV _ _ _ _ _ _ _ _ (by omega)]
    repeat' split
    all_goals first|assumption|exact h.nb i hi
   ta:=by
    have e:(Mk.told m n g real mono K te).h.ta=m.h.ta:=by unfold Mk.told;dsimp only;split<;>rfl
    rw[e];exact h.ta
   ti:=by
    have e:(Mk.told m n g real mono K te).h.ti=m.h.ti:=by unfold Mk.told;dsimp only;split<;>rfl
    rw[e];exact h.ti
   te:=by
    show 0≤(te:Int)∧(te:Int)≤_
    omega}
theorem aGp {m:Mk}(h:Inv m)(g:HG m)(L:List PR)(J: ∀q∈L,AllB q.1∧AllB q.2∧q.1.length≤64∧q.2.length≤256)(p:L.length≤16)(hb:m.b.length≤32768)(real mono:Int)(K:Nat→Int)
 (hr:0≤real∧real≤18446744073709551615)(X:0≤mono∧mono≤18446744073709551615)(R:IdOk K)(h9:m.h.N 9≠18446744073709551615):
 Inv (Mk.entered m L real mono K)∧HG (Mk.entered m L real mono K)∧(Mk.entered m L real mono K).C=m.C∧(Mk.entered m L real mono K).b=(Mk.grown m L real mono K).b∧(Mk.entered m L real mono K).h.N 9=m.h.N 9+1:=by
 have n9:=g.nb 9 (by omega)
 obtain⟨n,i2,F,i4,r⟩:=aAs h L J L.length (yR _)
 have I:=aC4 g h L J p (by omega) L.length (yR _)
 rw[List.take_length]at n i2 F i4 r I
 unfold Mk.entered Mk.grown
 dsimp only
 generalize V:Mk.dataAll m L=s at*
 obtain⟨c,who⟩:=s
 dsimp only at*
 obtain⟨f,l,j,D⟩:=n.mn
 have u:(Mk.eobj c who (L.map fun q=>pay q.1 q.2) (m.h.N 9+1) real mono K).length%8=0∧0<(Mk.eobj c who (L.map fun q=>pay q.1 q.2) (m.h.N 9+1) real mono K).length∧(Mk.eobj c who (L.map fun q=>pay q.1 q.2) (m.h.N 9+1) real mono K).length≤400∧64≤(Mk.eobj c who (L.map fun q=>pay q.1 q.2) (m.h.N 9+1) real mono K).length:=by
  have e:=aDG c who (L.map fun q=>pay q.1 q.2) (m.h.N 9+1) real mono K
  omega
 generalize Mk.eobj c who (L.map fun q=>pay q.1 q.2) (m.h.N 9+1) real mono K=d at*
 obtain⟨e1,e2,e3,e4⟩:=u
 have H:=aA7 n d e1 e2
 have G2:=aBR I d (by omega)
 have Y:=aAM c d
 have k:Chain (c.object d).b.length (c.object d).main f:=j.mono (by omega)
 have o:(c.object d).h.N 8=(f:Int):=l
 have E:=n.len
 have e8:(m.h.N 8).toNat=f:=by rw[←r.n8,l];rfl
 rw[e8]
 obtain⟨g1,g2,g3,G,Z,g6,g7⟩:=aBx H c.b.length f o k (by omega) (by omega)
 have M:=aGo G2 H c.b.length f k (by omega) (by omega)
 generalize Mk.linked (c.object d) c.b.length f=t at*
 have i:InvM c.b.length 0 t:=⟨g1,fun k' hk'=>by rw[G]at hk';exact(n.dat k' hk').2.2.2.2,by omega⟩
 have z: ∀y∈who,y<t.datas.length:=fun y hy=>by rw[G];exact F y hy
 obtain⟨x,k2,k3,k4,A,k6,k7⟩:=aAL i c.b.length who z (by omega) who.length (yR _)
 have B:=aC5 M i c.b.length who z (by omega) (by omega) who.length (yR _)
 rw[List.take_length]at x k2 k3 k4 A k6 k7 B
 refine⟨aM7 x.inv _ _ _ _ _ _,aOO B _ _ _ _ _ _ (by omega) hr X R (by omega),?_,rfl,?_⟩
 ·show(Mk.markAll c.b.length t who).C=m.C
  rw[A,Z]
  exact r.C
 ·rw[aEV _ _ _ _ _ _ _ _ (by decide)]
  simp
end Ns
namespace Zd
open Bytes8 Ob Ga Ma Mg Na Nc Nh Fa Za Zb Zc
theorem aOP {b:List Int}{d:List O}(h:RepO b d){a j:Nat}{s:Sh}(hs:shp d a=some s)(r:j<s.n):u8 b (a+16+8*j)=wd d a j:=by
 obtain⟨o,i,g⟩:=aBm hs
 subst g
 have c:j<o.ws.length:=r
 obtain⟨p,q,t,y⟩:=aEy _ _ _ _ i
 have f:=h.ok o (aCn _ _ _ _ i)
 have x:(b.take 272).length=272:=by rw[List.length_take];have:=h.rep.len;omega
 have e:b=(b.take 272++p)++(o.enc++q):=by conv=>lhs;rw[h.rep.is,t,←List.append_assoc]
 rw[e,Nat.add_assoc,aDo _ _ a (16+8*j) (by rw[List.length_append];omega)]
 have u:o.enc++q=front o.k o.body.length++(nums o.ws++(o.tl++List.replicate (padN o.body.length) 0++q)):=by
  unfold O.enc objB O.body
  simp
 rw[u,aDo _ _ 16 (8*j) (front_len _ _)]
 have m:wd d a j=o.ws.getD j 0:=by unfold wd;rw[i]
 rw[m]
 refine aD8 _ _ j c ?_
 have l:o.ws.getD j 0=o.ws[j]:=by simp[List.getElem?_eq_getElem c]
 rw[l]
 exact f.ws _ (List.getElem_mem c)
theorem aPY {b:List Int}{c:List O}(h:RepO b c){a j:Nat}:0≤wd c a j∧wd c a j≤18446744073709551615:=by
 unfold wd
 cases i:obj 272 c a with
 |none=>show(0:Int)≤0∧(0:Int)≤18446744073709551615;decide
 |some o=>
  have f:=h.ok o (aCn _ _ _ _ i)
  show 0≤o.ws.getD j 0∧o.ws.getD j 0≤_
  by_cases d:j<o.ws.length
  ·have g:o.ws.getD j 0=o.ws[j]:=by simp[List.getElem?_eq_getElem d]
   rw[g]
   exact f.ws _ (List.getElem_mem d)
  ·have g:o.ws.getD j 0=0:=by simp[List.getElem?_eq_none (Nat.le_of_not_lt d)]
   rw[g];decide
def nameL (t:List Int):List Int:=t.takeWhile fun x=>x !=61
theorem aKK (n v:List Int)(h: ∀x∈n,x≠61):nameL (pay n v)=n:=by
 unfold nameL pay
 rw[List.append_assoc,List.takeWhile_append_of_pos (fun x hx=>by simpa using h x hx)]
 simp
def byN (l:List Kn)(nm:List Int):List Nat:=((l.filter fun k=>nameL k.text==nm).map Kn.at_).reverse
theorem aIx (l:List Kn)(k:Kn)(b:List Int):byN (l++ [k]) b=if nameL k.text=b then k.at_::byN l b else byN l b:=by
 unfold byN
 rw[List.filter_append]
 by_cases h:nameL k.text=b
 ·simp[h]
 ·simp[h]
theorem aCi {l:List Kn}{c:List Int}{x:Nat}(h:x∈byN l c): ∃d∈l,nameL d.text=c∧d.at_=x:=by
 unfold byN at h
 rw[List.mem_reverse]at h
 obtain⟨d,b,e⟩:=List.mem_map.1 h
 rw[List.mem_filter]at b
 exact⟨d,b.1,by simpa using b.2,e⟩
structure DatW (m:Mk)(os:List O)(i:Nat)(d:Kn)(hs:List Nat):Prop where
 sh:shp os d.at_=some ⟨1,6,d.text,(1,i)⟩
 w0:wd os d.at_ 0=Mk.sum m d.text
 w3:wd os d.at_ 3=(hs.headD 0:Nat)
 w4:wd os d.at_ 4=(d.arrays.headD 0:Nat)
 w5:wd os d.at_ 5=(d.count:Nat)
 cnt:d.count=hs.length
 slot:d.slot=Mk.dslot m d.text
 arr:ArrW os (i+1) d.arrays hs.tail
structure FldW (m:Mk)(os:List O)(i:Nat)(f:Kn)(l:List Kn):Prop where
 sh:shp os f.at_=some ⟨2,3,f.text,(2,i)⟩
 w0:wd os f.at_ 0=Mk.sum m f.text
 slot:f.slot=Mk.fslot m f.text
 fol:Fol (fun x=>wd os x 2) (wd os f.at_ 2) (byN l f.text)
structure Hold (m:Mk)(os:List O)(hs:Nat→List Nat)(mi:List Nat)(es:List (Nat×List Int)):Prop where
 rep:RepO m.b os
 td:TabW os 272 4 m.C.ds m.datas
 tf:TabW os (288+16*m.C.ds) 5 m.C.fs m.fields
 dat: ∀i (h:i<m.datas.length),DatW m os i m.datas[i] (hs i)
 fld: ∀i (h:i<m.fields.length),FldW m os i m.fields[i] m.datas
 asc:Asc m.datas
 ascF:Asc m.fields
 ownF: ∀d∈m.datas,∃f∈m.fields,f.text=nameL d.text
 dtx:(m.datas.map Kn.text).Nodup
 ftx:(m.fields.map Kn.text).Nodup
 none: ∀i,m.datas.length≤i→hs i=[]
 mn:ArrW os 0 m.main mi
 ent: ∀i (h:i<es.length),shp os es[i].1=some ⟨3,0,es[i].2,(3,i)⟩
 cov: ∀x s,shp os x=some s→x=272∨x=288+16*m.C.ds∨(∃d∈m.datas,d.at_=x)∨(∃f∈m.fields,f.at_=x)∨(∃e∈es,e.1=x)∨s.k=6
theorem aEB {m m':Mk}(h:m'.C=m.C)(s:List Int):Mk.sum m' s=Mk.sum m s:=by unfold Mk.sum;rw[h]
theorem aHw {m m':Mk}(h:m'.C=m.C)(s:List Int):Mk.dslot m' s=Mk.dslot m s:=by unfold Mk.dslot;rw[h,aEB h]
theorem aEh {m m':Mk}(h:m'.C=m.C)(s:List Int):Mk.fslot m' s=Mk.fslot m s:=by unfold Mk.fslot;rw[h,aEB h]
theorem DatW.stp {m m':Mk}{os b:List O}{i:Nat}{d:Kn}{hs:List Nat}(h:DatW m os i d hs)(f:m'.C=m.C){S:Nat→Nat→Prop}(p:Stp os b S)(c: ∀j,j≠1→j≠2→ ¬S d.at_ j)(g: ∀x j k n,shp os x=some ⟨6,n,[],(i+1,k)⟩→ ¬S x j):DatW m' b i d hs:=
 {sh:=p.shp _ _ h.sh
  w0:=by rw[p.wd _ _ _ h.sh (c 0 (by decide) (by decide)),aEB f];exact h.w0
  w3:=by rw[p.wd _ _ _ h.sh (c 3 (by decide) (by decide))];exact h.w3
  w4:=by rw[p.wd _ _ _ h.sh (c 4 (by decide) (by decide))];exact h.w4
  w5:=by rw[p.wd _ _ _ h.sh (c 5 (by decide) (by decide))];exact h.w5
  cnt:=h.cnt
  slot:=by rw[aHw f];exact h.slot
  arr:=h.arr.stp p g}
def dataO (m:Mk)(s:List Int)(i:Nat):O:=⟨1,[Mk.sum m s,0,0,0,0,0],s,(1,i)⟩
def fieldO (m:Mk)(s:List Int)(i:Nat):O:=⟨2,[Mk.sum m s,0,0],s,(2,i)⟩
theorem aM9 (m:Mk){s:List Int}(i:Nat)(hs:AllB s)(c:s.length≤400):(dataO m s i).Ok:=
 {k:=⟨by show(1:Int)≤1;decide,by show(1:Int)≤7;decide⟩
  ws:=fun x hx=>by
   have b:=aF6 m.C.keyed (Cf.file m.C) s
   simp[dataO]at hx
   rcases hx with rfl|rfl
   ·exact b
   ·decide
  tl:=hs
  n:=by
   rw[O.body_len]
   show 8*6+s.length≤_
   omega}
theorem aKL (m:Mk){s:List Int}(i:Nat)(hs:AllB s)(c:s.length≤400):(fieldO m s i).Ok:=
 {k:=⟨by show(1:Int)≤2;decide,by show(2:Int)≤7;decide⟩
  ws:=fun x hx=>by
   have b:=aF6 m.C.keyed (Cf.file m.C) s
   simp[fieldO]at hx
   rcases hx with rfl|rfl
   ·exact b
   ·decide
  tl:=hs
  n:=by
   rw[O.body_len]
   show 8*3+s.length≤_
   omega}
theorem aIy {l:List Kn}{k:Kn}(h:Asc l)(f: ∀d∈l,d.at_<k.at_):Asc (l++ [k]):=by
 show((l++ [k]).map Kn.at_).Pairwise (· < ·)
 rw[List.map_append,List.pairwise_append]
 refine⟨h,by simp,fun a ha b hb=>?_⟩
 obtain⟨d,c,rfl⟩:=List.mem_map.1 ha
 simp at hb
 subst hb
 exact f d c
theorem Hold.dat_lt {m:Mk}{b:List O}{hs:Nat→List Nat}{f:List Nat}{j:List (Nat×List Int)}(h:Hold m b hs f j){d:Kn}(g:d∈m.datas): ∃i,shp b d.at_=some ⟨1,6,d.text,(1,i)⟩∧d.at_+64≤endO b:=by
 obtain⟨i,k,e⟩:=List.mem_iff_getElem.1 g
 have c:=(h.dat i k).sh
 rw[e]at c
 exact⟨i,c,by have:=aBn c;dsimp only at this;omega⟩
theorem Hold.fld_lt {m:Mk}{b:List O}{hs:Nat→List Nat}{f:List Nat}{j:List (Nat×List Int)}(h:Hold m b hs f j){d:Kn}(g:d∈m.fields): ∃i,shp b d.at_=some ⟨2,3,d.text,(2,i)⟩∧d.at_+40≤endO b:=by
 obtain⟨i,k,e⟩:=List.mem_iff_getElem.1 g
 have c:=(h.fld i k).sh
 rw[e]at c
 exact⟨i,c,by have:=aBn c;dsimp only at this;omega⟩
end Zd
namespace Ze
open Bytes8 Ob Ga Ma Mb Mg Na Nb Nc Nh Za Zb Zc Zd
variable {m : Mk} {os : List O} {hs : Nat → List Nat} {mi : List Nat} {es : List (Nat × List Int)}
structure Half (m:Mk)(os os2:List O)(b2:List Int)(s:List Int)(L:Nat):Prop where
 rep:RepO b2 os2
 td:TabW os2 272 4 m.C.ds (m.datas++ [⟨s,L,Mk.dslot m s,0,[]⟩])
 stp:Stp os os2 (fun x i=>x=272∨(i=1∧ ∃d∈m.datas,d.at_=x))
 new:shp os2 L=some ⟨1,6,s,(1,m.datas.length)⟩
 w: ∀i,i≠0→wd os2 L i=0
 w0:wd os2 L 0=Mk.sum m s
 old: ∀x q,shp os2 x=some q→x=L∨shp os x=some q
theorem aNa (h:Hold m os hs mi es){s:List Int}(z:AllB s)(y:s.length≤400)(u:0<m.C.ds)(N:m.b.length≤1000000): ∃os2,Half m os os2 (Mk.put1 m s).b s m.b.length:=by
 have t:=h.rep.size
 have r1:=h.rep.push (dataO m s m.datas.length) (aM9 m _ z y)
 have A:=aCT os (dataO m s m.datas.length)
 have w1:=aFS os (dataO m s m.datas.length)
 have G:=Stp.push os (dataO m s m.datas.length) (fun x i=>x=272∨(i=1∧ ∃d∈m.datas,d.at_=x))
 have H:=Stp.push os (dataO m s m.datas.length) (fun _ _=>False)
 rw[←t]at A w1
 generalize os++ [dataO m s m.datas.length]=r at*
 have c:shp r m.b.length=some ⟨1,6,s,(1,m.datas.length)⟩:=by rw[A,if_pos rfl];rfl
 have k: ∀d∈m.datas,(∃p,shp r d.at_=some p∧1<p.n)∧d.at_≠272∧d.at_<m.b.length:=fun d l=>by
  obtain⟨i,f,M⟩:=h.dat_lt l
  obtain⟨g,B⟩:=h.td.sh
  refine⟨⟨_,G.shp _ _ f,by dsimp only;decide⟩,fun e=>?_,by omega⟩
  rw[e,B]at f
  injection f with f
  injection f with f
  exact absurd f (by first|decide|(dsimp only;decide))
 have J:TabW r 272 4 m.C.ds m.datas:=h.td.stp H (fun _ h=>h) (fun d l=>by
  obtain⟨i,f,_⟩:=h.dat_lt l
  exact⟨⟨_,f⟩,fun h=>h⟩)
 obtain⟨g,B⟩:=h.td.sh
 have j:m.b.length≠272:=by have:=aBn B;omega
 obtain⟨F,L,p,D,I⟩:=aOq r1 J ⟨s,m.b.length,Mk.dslot m s,0,[]⟩ c (by first|decide|(dsimp only;decide)) (by rw[w1,if_pos rfl];rfl) j k h.asc (aIh u s) (by
  have:=(aBY m s)
  rw[List.length_append]
  show m.b.length+(Mk.dobj m s).length≤_
  omega)
 have o: ∀i,wd F m.b.length i=wd r m.b.length i:=fun i=>p.wd _ _ _ c (by
  rintro(E|⟨_,d,l,E⟩)
  ·exact j E
  ·have:=(k d l).2.2;omega)
 refine⟨F,L,I,G.trans p,by rw[D];exact c,fun i hi=>?_,?_,fun x q hq=>?_⟩
 ·rw[o,w1,if_pos rfl]
  show [Mk.sum m s,0,0,0,0,0].getD i 0=0
  rcases i with _|_|_|_|_|_|i
  ·exact absurd rfl hi
  all_goals rfl
 ·rw[o,w1,if_pos rfl];rfl
 ·rw[D,A]at hq
  by_cases e:x=m.b.length
  ·exact .inl e
  ·rw[if_neg e]at hq;exact .inr hq
structure Full (m:Mk)(os os3:List O)(m3:Mk)(s nm:List Int)(L k:Nat):Prop where
 rep:RepO m3.b os3
 td:TabW os3 272 4 m.C.ds m3.datas
 tf:TabW os3 (288+16*m.C.ds) 5 m.C.fs m3.fields
 C:m3.C=m.C
 main:m3.main=m.main
 datas:m3.datas=m.datas++ [⟨s,L,Mk.dslot m s,0,[]⟩]
 stp:Stp os os3 (fun x i=>x=272∨x=288+16*m.C.ds∨(i=1∧((∃d∈m.datas,d.at_=x)∨ ∃d∈m.fields,d.at_=x)))
 new:shp os3 L=some ⟨1,6,s,(1,m.datas.length)⟩
 w: ∀i,i≠0→wd os3 L i=0
 w0:wd os3 L 0=Mk.sum m s
 asc:Asc m3.fields
 ftx:(m3.fields.map Kn.text).Nodup
 sub: ∀f∈m.fields,f∈m3.fields
 fld: ∀i (h:i<m3.fields.length),FldW m os3 i m3.fields[i] m.datas
 k: ∃i,∃h:i<m3.fields.length,m3.fields[i].text=nm∧m3.fields[i].at_=k
 old: ∀x q,shp os3 x=some q→x=L∨(∃f∈m3.fields,f.at_=x)∨shp os x=some q
theorem k_ne {b:List O}{x y:Nat}{s t:Sh}(h:shp b x=some s)(k:shp b y=some t)(c:s.k≠t.k):x≠y:=fun e=>by
 rw[e,k]at h
 injection h with h
 exact c (by rw[h])
theorem aNb (h:Hold m os hs mi es)(I:Inv m){s o:List Int}(ao:AllB s)(an:s.length≤400)(hn:AllB o)(ar:o.length≤64)(au:nameL s=o)(hb:m.b.length≤1000000):
 ∃os3,Full m os os3 (Mk.fieldOf (Mk.put1 m s) o).2 s o m.b.length (Mk.fieldOf (Mk.put1 m s) o).1:=by
 obtain⟨u,H⟩:=aNa h ao an I.ds.1 hb
 have ax:=h.rep.size
 have ab:=H.rep.size
 have aq:=aCx I s
 have aw:=aBY m s
 obtain⟨g4,hg4⟩:=h.td.sh
 obtain⟨g5,hg5⟩:=h.tf.sh
 have hL: ∀ {x:Nat} {q:Sh},shp os x=some q→x≠m.b.length:=fun hx=>by have:=aBn hx;omega
 have af:TabW u (288+16*m.C.ds) 5 m.C.fs m.fields:=h.tf.stp H.stp (fun i c=>by
  rcases c with c|⟨_,d,l,c⟩
  ·omega
  ·obtain⟨j,p,_⟩:=h.dat_lt l
   exact k_ne p hg5 (by first|decide|(dsimp only;decide)) c) (fun d l=>by
  obtain⟨j,p,_⟩:=h.fld_lt l
  refine⟨⟨_,p⟩,?_⟩
  rintro(c|⟨_,e,he,c⟩)
  ·exact k_ne p hg4 (by first|decide|(dsimp only;decide)) c
  ·obtain⟨j2,y,_⟩:=h.dat_lt he
   exact k_ne y p (by first|decide|(dsimp only;decide)) c)
 have V: ∀i (B:i<m.fields.length),FldW m u i m.fields[i] m.datas:=fun i B=>by
  have F:=h.fld i B
  have Y: ∀j,j≠1→ ∀x q,shp os x=some q→q.k≠4→wd u x j=wd os x j:=fun j hj x q hx J=>H.stp.wd _ _ _ hx (by
   rintro(c|⟨c,_⟩)
   ·rw[c,hg4]at hx
    injection hx with hx
    rw[←hx]at J
    exact J rfl
   ·exact hj c)
  exact
   {sh:=H.stp.shp _ _ F.sh
    w0:=by rw[Y 0 (by first|decide|(dsimp only;decide)) _ _ F.sh (by first|decide|(dsimp only;decide))];exact F.w0
    slot:=F.slot
    fol:=by
     rw[Y 2 (by first|decide|(dsimp only;decide)) _ _ F.sh (by first|decide|(dsimp only;decide))]
     refine Fol.cong _ _ F.fol (fun x hx=>?_)
     obtain⟨d,l,_,e⟩:=aCi hx
     obtain⟨j,p,_⟩:=h.dat_lt l
     rw[←e]
     exact Y 2 (by first|decide|(dsimp only;decide)) _ _ p (by first|decide|(dsimp only;decide))}
 unfold Mk.fieldOf
 have e1:(Mk.put1 m s).fields=m.fields:=rfl
 rw[e1]
 cases hf:findK m.fields o with
 |some kn=>
  dsimp only
  have hm:=aF8 hf
  have al:kn.text=o:=by
   unfold findK at hf
   have:=List.find?_some hf
   simpa using this
  obtain⟨i,B,e⟩:=List.mem_iff_getElem.1 hm
  exact⟨u,
   {rep:=H.rep,td:=H.td,tf:=af,C:=rfl,main:=rfl,datas:=rfl
    stp:=H.stp.mono fun x j _ _ c=>by
     rcases c with c|⟨c,p⟩
     ·exact .inl c
     ·exact .inr (.inr ⟨c,.inl p⟩)
    new:=H.new,w:=H.w,w0:=H.w0,asc:=h.ascF,ftx:=h.ftx,sub:=fun f hf=>hf,fld:=V
    k:=⟨i,B,by show m.fields[i].text=o;rw[e];exact al,by show m.fields[i].at_=kn.at_;rw[e]⟩
    old:=fun x q J=>(H.old x q J).imp id .inr}⟩
 |none=>
  dsimp only
  have G: ∀f∈m.fields,f.text≠o:=fun f t=>by
   unfold findK at hf
   have:=List.find?_eq_none.1 hf f t
   simpa using this
  have E:byN m.datas o=[]:=by
   cases ak:byN m.datas o with
   |nil=>rfl
   |cons x r=>
    obtain⟨d,l,c,_⟩:=aCi (show x∈byN m.datas o by rw[ak];exact List.mem_cons_self ..)
    obtain⟨f,t,p⟩:=h.ownF d l
    exact absurd (p.trans c) (G f t)
  have av:(Mk.put1 m s).b.length≤2000000:=by omega
  have ay:=aFk (Mk.put1 m s) o
  generalize aa:Mk.put1 m s=g at*
  have L:g.C=m.C:=by rw[←aa];rfl
  have ad:g.datas=m.datas++ [⟨s,m.b.length,Mk.dslot m s,0,[]⟩]:=by rw[←aa];rfl
  have z:g.fields=m.fields:=e1
  have ag:g.main=m.main:=by rw[←aa];rfl
  have r1:=H.rep.push (fieldO g o m.fields.length) (aKL g _ hn (by omega))
  have q1:=aCT u (fieldO g o m.fields.length)
  have w1:=aFS u (fieldO g o m.fields.length)
  have se:=Stp.push u (fieldO g o m.fields.length) (fun _ _=>False)
  rw[←ab]at q1 w1
  generalize u++ [fieldO g o m.fields.length]=o1 at*
  have N: ∀ {x:Nat} {q:Sh},shp u x=some q→x<g.b.length:=fun hx=>by have:=aBn hx;omega
  have D:shp o1 g.b.length=some ⟨2,3,o,(2,m.fields.length)⟩:=by rw[q1,if_pos rfl];rfl
  have Z: ∀d∈m.fields,(∃s2,shp o1 d.at_=some s2∧1<s2.n)∧d.at_≠288+16*m.C.ds∧d.at_<g.b.length:=fun d l=>by
   obtain⟨i,c,p⟩:=h.fld_lt l
   have y:=H.stp.shp _ _ c
   exact⟨⟨_,se.shp _ _ y,by dsimp only;decide⟩,k_ne c hg5 (by first|decide|(dsimp only;decide)),N y⟩
  have am:TabW o1 (288+16*m.C.ds) 5 m.C.fs m.fields:=af.stp se (fun _ h=>h) (fun d l=>by
   obtain⟨i,c,_⟩:=h.fld_lt l
   exact⟨⟨_,H.stp.shp _ _ c⟩,fun h=>h⟩)
  have M:=H.stp.shp _ _ hg5
  have ap:=H.stp.shp _ _ hg4
  obtain⟨R,r3,s3,q3,t3⟩:=aOq r1 am ⟨o,g.b.length,Mk.fslot g o,0,[]⟩ D (by first|decide|(dsimp only;decide)) (by rw[w1,if_pos rfl];rfl) (by have:=N M;dsimp only;omega) Z h.ascF (by rw[aEh L];exact aIi I.fs.1 o) (by
   rw[List.length_append]
   show g.b.length+(Mk.fobj g o).length≤_
   omega)
  have X: ∀x q,shp u x=some q→shp R x=some q:=fun x q hx=>by rw[q3];exact se.shp _ _ hx
  have A: ∀x i q,shp u x=some q→q.k≠5→ ¬(i=1∧q.k=2)→wd R x i=wd u x i:=fun x i q hx J B=>by
   rw[s3.wd x i q (se.shp _ _ hx) (by
    rintro(c|⟨c,d,l,p⟩)
    ·rw[c,M]at hx
     injection hx with hx
     rw[←hx]at J
     exact J rfl
    ·obtain⟨j,y,_⟩:=h.fld_lt l
     have h4:=H.stp.shp _ _ y
     rw[p,hx]at h4
     injection h4 with h4
     exact B ⟨c,by rw[h4]⟩)]
   rw[w1,if_neg (by have:=N hx;omega)]
  have ai: ∀i,wd R g.b.length i=[Mk.sum g o,0,0].getD i 0:=fun i=>by
   rw[s3.wd _ _ _ D (by
    rintro(c|⟨_,d,l,c⟩)
    ·have:=N M;omega
    ·have:=(Z d l).2.2;omega),w1,if_pos rfl]
   rfl
  refine⟨R,
   {rep:=?_,td:=?_,tf:=?_,C:=L,main:=ag,datas:=ad,stp:=?_
    new:=X _ _ H.new
    w:=fun i B=>by rw[A _ _ _ H.new (by first|decide|(dsimp only;decide)) (fun h=>absurd h.2 (by first|decide|(dsimp only;decide)))];exact H.w i B
    w0:=by rw[A _ _ _ H.new (by first|decide|(dsimp only;decide)) (fun h=>absurd h.2 (by first|decide|(dsimp only;decide)))];exact H.w0
    asc:=?_,ftx:=?_,sub:=?_,fld:=?_,k:=?_,old:=?_}⟩
  ·show RepO (hung (g.b++Mk.fobj g o) m.fields (Mk.tf g) g.b.length (Mk.fslot g o)) R
   have e2:Mk.tf g=288+16*m.C.ds+16:=by unfold Mk.tf;rw[L];omega
   rw[e2]
   exact r3
  ·show TabW R 272 4 m.C.ds g.datas
   rw[ad]
   have t0:=H.td.stp se (fun _ h=>h) (fun d l=>by
    rcases List.mem_append.1 l with l|l
    ·obtain⟨i,c,_⟩:=h.dat_lt l
     exact⟨⟨_,H.stp.shp _ _ c⟩,fun h=>h⟩
    ·rw[List.mem_singleton]at l
     subst l
     exact⟨⟨_,H.new⟩,fun h=>h⟩)
   refine t0.stp s3 (fun i c=>?_) (fun d l=>?_)
   ·rcases c with c|⟨_,f,t,c⟩
    ·omega
    ·obtain⟨j,p,_⟩:=h.fld_lt t
     exact k_ne p hg4 (by first|decide|(dsimp only;decide)) c
   ·rcases List.mem_append.1 l with l|l
    ·obtain⟨i,c,_⟩:=h.dat_lt l
     refine⟨⟨_,se.shp _ _ (H.stp.shp _ _ c)⟩,?_⟩
     rintro(y|⟨_,f,t,y⟩)
     ·exact k_ne c hg5 (by first|decide|(dsimp only;decide)) y
     ·obtain⟨j,p,_⟩:=h.fld_lt t
      exact k_ne p c (by first|decide|(dsimp only;decide)) y
    ·rw[List.mem_singleton]at l
     subst l
     refine⟨⟨_,se.shp _ _ H.new⟩,?_⟩
     rintro(y|⟨_,f,t,y⟩)
     ·exact hL hg5 y.symm
     ·obtain⟨j,p,_⟩:=h.fld_lt t
      exact hL p y
  ·show TabW R (288+16*m.C.ds) 5 m.C.fs (g.fields++ [⟨o,g.b.length,Mk.fslot g o,0,[]⟩])
   rw[z]
   exact t3
  ·refine⟨fun x q hx=>X _ _ (H.stp.shp _ _ hx),fun x i q hx hS=>?_⟩
   rw[A x i q (H.stp.shp _ _ hx) (fun e=>?_) (fun e=>?_),H.stp.wd x i q hx]
   ·rintro(c|⟨c,p⟩)
    ·exact hS (.inl c)
    ·exact hS (.inr (.inr ⟨c,.inl p⟩))
   ·rcases h.cov x q hx with c|c|⟨d,l,c⟩|⟨d,l,c⟩|⟨d,l,c⟩|c
    ·exact hS (.inl c)
    ·exact hS (.inr (.inl c))
    ·obtain⟨j,p,_⟩:=h.dat_lt l
     rw[c,hx]at p;injection p with p;rw[p]at e;cases e
    ·obtain⟨j,p,_⟩:=h.fld_lt l
     rw[c,hx]at p;injection p with p;rw[p]at e;cases e
    ·obtain⟨j,hj,p⟩:=List.mem_iff_getElem.1 l
     have y:=h.ent j hj
     rw[p,c,hx]at y;injection y with y;rw[y]at e;cases e
    ·rw[c]at e;cases e
   ·rcases h.cov x q hx with c|c|⟨d,l,c⟩|⟨d,l,c⟩|⟨d,l,c⟩|c
    ·exact hS (.inl c)
    ·exact hS (.inr (.inl c))
    ·exact hS (.inr (.inr ⟨e.1,.inl ⟨d,l,c⟩⟩))
    ·exact hS (.inr (.inr ⟨e.1,.inr ⟨d,l,c⟩⟩))
    ·obtain⟨j,hj,p⟩:=List.mem_iff_getElem.1 l
     have y:=h.ent j hj
     rw[p,c,hx]at y;injection y with y;rw[y]at e;cases e.2
    ·rw[c]at e;cases e.2
  ·show Asc (g.fields++ [(⟨o,g.b.length,Mk.fslot g o,0,[]⟩:Kn)])
   rw[z]
   exact aIy h.ascF (fun d l=>(Z d l).2.2)
  ·show((g.fields++ [(⟨o,g.b.length,Mk.fslot g o,0,[]⟩:Kn)]).map Kn.text).Nodup
   rw[z,List.map_append,List.nodup_append]
   refine⟨h.ftx,by simp,fun a ha b hb2=>?_⟩
   obtain⟨f,t,rfl⟩:=List.mem_map.1 ha
   simp at hb2
   subst hb2
   exact G f t
  ·intro f t
   show f∈g.fields++ [_]
   rw[z]
   exact List.mem_append_left _ t
  ·intro i B
   have ac:i<(m.fields++ [(⟨o,g.b.length,Mk.fslot g o,0,[]⟩:Kn)]).length:=by rw[←z];exact B
   have ae:(Mk.named g m.fields (Mk.tf g) o).fields[i]'B=(m.fields++ [(⟨o,g.b.length,Mk.fslot g o,0,[]⟩:Kn)])[i]'ac:=by
    show(g.fields++ [_])[i]'_=_
    simp only[z]
   rw[ae]
   by_cases ah:i<m.fields.length
   ·rw[List.getElem_append_left ah]
    have F:=V i ah
    exact
     {sh:=X _ _ F.sh
      w0:=by rw[A _ _ _ F.sh (by first|decide|(dsimp only;decide)) (fun h=>absurd h.1 (by first|decide|(dsimp only;decide)))];exact F.w0
      slot:=F.slot
      fol:=by
       rw[A _ _ _ F.sh (by first|decide|(dsimp only;decide)) (fun h=>absurd h.1 (by first|decide|(dsimp only;decide)))]
       refine Fol.cong _ _ F.fol (fun x hx=>?_)
       obtain⟨d,l,_,e⟩:=aCi hx
       obtain⟨j,p,_⟩:=h.dat_lt l
       rw[←e]
       exact A _ _ _ (H.stp.shp _ _ p) (by first|decide|(dsimp only;decide)) (fun h=>absurd h.1 (by first|decide|(dsimp only;decide)))}
   ·have aj:i=m.fields.length:=by rw[List.length_append,List.length_singleton]at ac;omega
    subst aj
    rw[List.getElem_append_right (yR _)]
    simp only[Nat.sub_self,List.getElem_singleton]
    exact
     {sh:=by rw[q3];exact D
      w0:=by
       show wd R g.b.length 0=_
       rw[ai,←aEB L];rfl
      slot:=by
       show Mk.fslot g o=Mk.fslot m o
       exact aEh L o
      fol:=by
       show Fol _ (wd R g.b.length 2) (byN m.datas o)
       rw[E,ai];rfl}
  ·refine⟨m.fields.length,?_,?_,?_⟩
   ·show _<(g.fields++ [_]).length
    rw[z,List.length_append,List.length_singleton];omega
   ·show((g.fields++ [_])[m.fields.length]'_).text=o
    simp[z]
   ·show((g.fields++ [_])[m.fields.length]'_).at_=g.b.length
    simp[z]
  ·intro x q J
   rw[q3,q1]at J
   by_cases e:x=g.b.length
   ·refine .inr (.inl ⟨⟨o,g.b.length,Mk.fslot g o,0,[]⟩,?_,e.symm⟩)
    show _∈g.fields++ [_]
    exact List.mem_append_right _ (List.mem_singleton.2 rfl)
   ·rw[if_neg e]at J
    exact(H.old x q J).imp id .inr
theorem aNc (h:Hold m os hs mi es)(I:Inv m){s nm:List Int}(aq:AllB s)(ak:s.length≤400)(hn:AllB nm)(ah:nm.length≤64)(N:nameL s=nm)(M: ∀d∈m.datas,d.text≠s)(hb:m.b.length≤1000000):
 ∃os',Hold (Mk.dataNew m nm s) os' hs mi es:=by
 obtain⟨B,F⟩:=aNb h I aq ak hn ah N hb
 have ax:=h.rep.size
 unfold Mk.dataNew
 generalize ay:(Mk.fieldOf (Mk.put1 m s) nm).2=l at*
 generalize au:(Mk.fieldOf (Mk.put1 m s) nm).1=k at*
 obtain⟨i,Y,ht,hk⟩:=F.k
 have G:=F.fld i Y
 have p:=G.sh
 rw[hk]at p
 have am:m.b.length≠k:=k_ne F.new p (by first|decide|(dsimp only;decide))
 have e1:=aOP F.rep p (j:=2) (by first|decide|(dsimp only;decide))
 have e2:k+16+8*2=k+32:=by omega
 rw[e2]at e1
 have r1:=F.rep.put F.new (j:=2) (x:=m.b.length+32) (by first|decide|(dsimp only;decide)) (by omega) (aPY F.rep (a:=k) (j:=2))
 have q1:=fun x=>aAU B m.b.length 2 x (wd B k 2)
 have w1:=aBz F.new (j:=2) (by first|decide|(dsimp only;decide)) (wd B k 2)
 generalize aw:upd 272 B m.b.length (O.setW 2 (wd B k 2))=o4 at*
 have X:shp o4 k=some ⟨2,3,l.fields[i].text,(2,i)⟩:=by rw[q1];exact p
 have r2:=r1.put X (j:=2) (x:=k+32) (by first|decide|(dsimp only;decide)) (by omega) (v:=(m.b.length:Int)) (by omega)
 have q2:=fun x=>aAU o4 k 2 x (m.b.length:Int)
 have w2:=aBz X (j:=2) (by first|decide|(dsimp only;decide)) (m.b.length:Int)
 generalize av:upd 272 o4 k (O.setW 2 (m.b.length:Int))=r at*
 have hq: ∀x,shp r x=shp B x:=fun x=>by rw[q2,q1]
 have Z: ∀x j,wd r x j=if x=k∧j=2 then(m.b.length:Int)else if x=m.b.length∧j=2 then wd B k 2 else wd B x j:=fun x j=>by rw[w2,w1]
 have st:Stp B r (fun x j=>j=2∧(x=k∨x=m.b.length)):=⟨fun x q o=>by rw[hq];exact o,fun x j q _ D=>by rw[Z,if_neg (fun h=>D ⟨h.2,.inl h.1⟩),if_neg (fun h=>D ⟨h.2,.inr h.1⟩)]⟩
 have ae: ∀d∈m.datas,d.at_<m.b.length:=fun d g=>by obtain⟨j,_,y⟩:=h.dat_lt g;omega
 obtain⟨g4,H⟩:=h.td.sh
 obtain⟨g5,J⟩:=h.tf.sh
 have aj: ∀x q,shp os x=some q→shp r x=some q:=fun x q o=>by rw[hq];exact F.stp.shp _ _ o
 refine⟨r,
  {rep:=?_,td:=?_,tf:=?_,dat:=?_,fld:=?_,asc:=?_,ascF:=F.asc,ownF:=?_,dtx:=?_,ftx:=F.ftx,none:=?_,mn:=?_
   ent:=fun j D=>aj _ _ (h.ent j D),cov:=?_}⟩
 ·show RepO (put8 (put8 l.b (m.b.length+32) (u8 l.b (k+32))) (k+32) m.b.length) r
  rw[e1]
  exact r2
 ·show TabW r 272 4 l.C.ds l.datas
  rw[F.C]
  refine F.td.stp st (fun j D=>?_) (fun d g=>⟨?_,fun h=>absurd h.1 (by decide)⟩)
  ·rcases D.2 with c|c
   ·exact k_ne (F.stp.shp _ _ H) p (by first|decide|(dsimp only;decide)) c
   ·have:=aBn H;omega
  ·rw[F.datas]at g
   rcases List.mem_append.1 g with g|g
   ·obtain⟨j,y,_⟩:=h.dat_lt g
    exact⟨_,F.stp.shp _ _ y⟩
   ·rw[List.mem_singleton]at g
    subst g
    exact⟨_,F.new⟩
 ·show TabW r (288+16*l.C.ds) 5 l.C.fs l.fields
  rw[F.C]
  refine F.tf.stp st (fun j D=>?_) (fun d g=>⟨?_,fun h=>absurd h.1 (by decide)⟩)
  ·rcases D.2 with c|c
   ·exact k_ne (F.stp.shp _ _ J) p (by first|decide|(dsimp only;decide)) c
   ·exact k_ne (F.stp.shp _ _ J) F.new (by first|decide|(dsimp only;decide)) c
  ·obtain⟨j,D,e⟩:=List.mem_iff_getElem.1 g
   exact⟨_,e▸(F.fld j D).sh⟩
 ·intro i Y
  have an:(Mk.put2 l m.b.length k).C=m.C:=F.C
  have z:i<(m.datas++ [(⟨s,m.b.length,Mk.dslot m s,0,[]⟩:Kn)]).length:=by rw[←F.datas];exact Y
  have ad:(Mk.put2 l m.b.length k).datas[i]'Y=(m.datas++ [(⟨s,m.b.length,Mk.dslot m s,0,[]⟩:Kn)])[i]'z:=by
   show l.datas[i]'_=_
   simp only[F.datas]
  rw[ad]
  by_cases af:i<m.datas.length
  ·rw[List.getElem_append_left af]
   have t:=h.dat i af
   have ac: ∀q,shp os m.datas[i].at_=some q→m.datas[i].at_≠272∧m.datas[i].at_≠288+16*m.C.ds:=fun q hq=>⟨k_ne t.sh H (by first|decide|(dsimp only;decide)),k_ne t.sh J (by first|decide|(dsimp only;decide))⟩
   have p3:DatW m B i m.datas[i] (hs i):=t.stp rfl F.stp (fun j hj1 hj2 hS=>by
    rcases hS with c|c|⟨c,_⟩
    ·exact(ac _ t.sh).1 c
    ·exact(ac _ t.sh).2 c
    ·exact hj1 c) (fun x j k2 n o hS=>by
    rcases hS with c|c|⟨c,⟨d,g,y⟩|⟨d,g,y⟩⟩
    ·exact k_ne o H (by first|decide|(dsimp only;decide)) c
    ·exact k_ne o J (by first|decide|(dsimp only;decide)) c
    ·obtain⟨j2,E,_⟩:=h.dat_lt g
     exact k_ne E o (by first|decide|(dsimp only;decide)) y
    ·obtain⟨j2,E,_⟩:=h.fld_lt g
     exact k_ne E o (by first|decide|(dsimp only;decide)) y)
   exact p3.stp an st (fun j _ hj2 hS=>hj2 hS.1) (fun x j k2 n o hS=>by
    rcases hS.2 with c|c
    ·exact k_ne o p (by first|decide|(dsimp only;decide)) c
    ·exact k_ne o F.new (by first|decide|(dsimp only;decide)) c)
  ·have L:i=m.datas.length:=by rw[List.length_append,List.length_singleton]at z;omega
   subst L
   rw[List.getElem_append_right (yR _)]
   simp only[Nat.sub_self,List.getElem_singleton]
   have R: ∀j,j≠2→wd r m.b.length j=wd B m.b.length j:=fun j D=>st.wd _ _ _ F.new (fun h=>D h.1)
   have hh:=h.none m.datas.length (yR _)
   exact
    {sh:=by rw[hq];exact F.new
     w0:=by
      show wd r m.b.length 0=_
      rw[R 0 (by decide),F.w0]
      exact(aEB F.C s).symm
     w3:=by
      show wd r m.b.length 3=_
      rw[R 3 (by decide),F.w 3 (by decide),hh];rfl
     w4:=by
      show wd r m.b.length 4=_
      rw[R 4 (by decide),F.w 4 (by decide)];rfl
     w5:=by
      show wd r m.b.length 5=_
      rw[R 5 (by decide),F.w 5 (by decide)];rfl
     cnt:=by rw[hh];rfl
     slot:=(aHw F.C s).symm
     arr:=by rw[hh];exact ArrW.nil _ _}
 ·intro A z
  have aa:A<l.fields.length:=z
  have ai:(Mk.put2 l m.b.length k).fields[A]'z=l.fields[A]:=rfl
  rw[ai]
  have t:=F.fld A aa
  have V: ∀d∈m.datas,wd r d.at_ 2=wd B d.at_ 2:=fun d g=>by
   obtain⟨j,y,_⟩:=h.dat_lt g
   have E:=F.stp.shp _ _ y
   rw[Z,if_neg (fun h4=>k_ne E p (by first|decide|(dsimp only;decide)) h4.1),if_neg (fun h4=>by have:=ae d g;omega)]
  have ap:l.fields[A].at_≠m.b.length:=k_ne t.sh F.new (by first|decide|(dsimp only;decide))
  have ab:(Mk.put2 l m.b.length k).datas=m.datas++ [⟨s,m.b.length,Mk.dslot m s,0,[]⟩]:=F.datas
  rw[ab]
  by_cases L:A=i
  ·subst L
   exact
    {sh:=by rw[hq];exact t.sh
     w0:=by
      rw[Z,if_neg (fun h4=>absurd h4.2 (by decide)),if_neg (fun h4=>absurd h4.2 (by decide)),t.w0]
      exact(aEB F.C _).symm
     slot:=t.slot.trans (aEh F.C _).symm
     fol:=by
      rw[aIx,if_pos (N.trans ht.symm),Z,hk,if_pos ⟨rfl,rfl⟩]
      refine⟨rfl,?_⟩
      show Fol (fun x=>wd r x 2) (wd r m.b.length 2) _
      rw[Z,if_neg (fun h4=>am h4.1),if_pos ⟨rfl,rfl⟩]
      have u:=t.fol
      rw[hk]at u
      refine Fol.cong _ _ u (fun x o=>?_)
      obtain⟨d,g,_,e⟩:=aCi o
      rw[←e]
      exact V d g}
  ·have ar:l.fields[A].at_≠k:=fun e=>by
    have u:=t.sh
    rw[e,p]at u
    injection u with u
    injection u with _ _ _ u
    injection u with _ u
    exact L u.symm
   have ao:nm≠l.fields[A].text:=fun e=>by
    have u:=List.pairwise_iff_getElem.1 F.ftx
    rcases Nat.lt_or_ge A i with h6|h6
    ·have h7:=u A i (by simpa using aa) (by simpa using Y) h6
     rw[List.getElem_map,List.getElem_map,ht]at h7
     exact h7 e.symm
    ·have h7:=u i A (by simpa using Y) (by simpa using aa) (by omega)
     rw[List.getElem_map,List.getElem_map,ht]at h7
     exact h7 e
   exact
    {sh:=by rw[hq];exact t.sh
     w0:=by
      rw[Z,if_neg (fun h4=>absurd h4.2 (by decide)),if_neg (fun h4=>absurd h4.2 (by decide)),t.w0]
      exact(aEB F.C _).symm
     slot:=t.slot.trans (aEh F.C _).symm
     fol:=by
      rw[aIx,if_neg (fun e=>ao (N.symm.trans e)),Z,if_neg (fun h4=>ar h4.1),if_neg (fun h4=>ap h4.1)]
      refine Fol.cong _ _ t.fol (fun x o=>?_)
      obtain⟨d,g,_,e⟩:=aCi o
      rw[←e]
      exact V d g}
 ·show Asc l.datas
  rw[F.datas]
  exact aIy h.asc ae
 ·intro d g
  have ag:d∈m.datas++ [(⟨s,m.b.length,Mk.dslot m s,0,[]⟩:Kn)]:=by rw[←F.datas];exact g
  rcases List.mem_append.1 ag with c|c
  ·obtain⟨f,y,E⟩:=h.ownF d c
   exact⟨f,F.sub f y,E⟩
  ·rw[List.mem_singleton]at c
   subst c
   exact⟨l.fields[i],List.getElem_mem Y,ht.trans N.symm⟩
 ·show(l.datas.map Kn.text).Nodup
  rw[F.datas,List.map_append,List.nodup_append]
  refine⟨h.dtx,by simp,fun a ha b hb2=>?_⟩
  obtain⟨f,al,rfl⟩:=List.mem_map.1 ha
  simp at hb2
  subst hb2
  exact M f al
 ·intro A z
  have e3:(Mk.put2 l m.b.length k).datas.length=m.datas.length+1:=by
   show l.datas.length=_
   rw[F.datas,List.length_append,List.length_singleton]
  exact h.none A (by omega)
 ·show ArrW r 0 l.main mi
  rw[F.main]
  refine(h.mn.stp F.stp (fun x j k2 n o hS=>?_)).stp st (fun x j k2 n o hS=>?_)
  ·rcases hS with c|c|⟨c,⟨d,g,y⟩|⟨d,g,y⟩⟩
   ·exact k_ne o H (by first|decide|(dsimp only;decide)) c
   ·exact k_ne o J (by first|decide|(dsimp only;decide)) c
   ·obtain⟨j2,E,_⟩:=h.dat_lt g
    exact k_ne E o (by first|decide|(dsimp only;decide)) y
   ·obtain⟨j2,E,_⟩:=h.fld_lt g
    exact k_ne E o (by first|decide|(dsimp only;decide)) y
  ·rcases hS.2 with c|c
   ·exact k_ne o p (by first|decide|(dsimp only;decide)) c
   ·exact k_ne o F.new (by first|decide|(dsimp only;decide)) c
 ·intro x q o
  rw[hq]at o
  show x=272∨x=288+16*l.C.ds∨(∃d∈l.datas,d.at_=x)∨(∃f∈l.fields,f.at_=x)∨_
  rw[F.C,F.datas]
  rcases F.old x q o with c|⟨f,hf,c⟩|c
  ·exact .inr (.inr (.inl ⟨_,List.mem_append_right _ (List.mem_singleton.2 rfl),c.symm⟩))
  ·exact .inr (.inr (.inr (.inl ⟨f,hf,c⟩)))
  ·rcases h.cov x q c with c|c|⟨d,g,c⟩|⟨d,g,c⟩|c
   ·exact .inl c
   ·exact .inr (.inl c)
   ·exact .inr (.inr (.inl ⟨d,List.mem_append_left _ g,c⟩))
   ·exact .inr (.inr (.inr (.inl ⟨d,F.sub d g,c⟩)))
   ·exact .inr (.inr (.inr (.inr c)))
end Ze
end Go.Proofs.YtlelnfokffflnaaGreat
