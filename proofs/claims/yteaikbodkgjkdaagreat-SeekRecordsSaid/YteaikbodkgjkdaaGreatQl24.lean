/-
  Texts beneath.
-/
import Derived.Test.YteaikbodkgjkdaaGreatQl23
set_option linter.unusedVariables false
set_option linter.unusedSimpArgs false
set_option maxRecDepth 100000
namespace Go.Proofs.YteaikbodkgjkdaaGreat
namespace Zf
open Bytes8 Ob Ga Ma Mb Mg Na Nc Nh Nl Fa Za Zb Zc Zd Ze Pr8
variable {m : Mk} {os : List O} {hs : Nat → List Nat} {mi : List Nat} {es : List (Nat × List Int)}
theorem aHu (h:Hold m os hs mi es)(I:Inv m){n v:List Int}(f:AllB n)(g:AllB v)(a:n.length≤64)(j:v.length≤256)(c: ∀x∈n,x≠61)(k:m.b.length≤1000000): ∃os',Hold (Mk.dataOf m n (pay n v)).2 os' hs mi es:=by
 unfold Mk.dataOf
 cases e:idxK m.datas (pay n v)with
 |some i=>exact⟨os,h⟩
 |none=>
  refine aNc h I (aBr f g) (by rw[Nee.pay_len];omega) f a (aKJ n v c) (fun d hd=>?_) k
  unfold idxK at e
  have:=List.findIdx?_eq_none_iff.1 e d hd
  simpa using this
theorem aBS (h:Hold m os hs mi es)(I:Inv m)(l:List PR)(c: ∀q∈l,AllB q.1∧AllB q.2∧q.1.length≤64∧q.2.length≤256)(a: ∀q∈l,∀x∈q.1,x≠61)(d:l.length≤16)(j:m.b.length≤900000): ∀k,k≤l.length→ ∃os',Hold (Mk.dataAll m (l.take k)).1 os' hs mi es
 |0,_=>⟨os,h⟩
 |k+1,hk=>by
  obtain⟨o1,h1⟩:=aBS h I l c a d j k (by omega)
  obtain⟨e,s,p,r,o⟩:=aAs I l c k (by omega)
  obtain⟨g,n,i,f⟩:=c l[k] (List.getElem_mem _)
  rw[aA0 m l k (by omega)]
  exact aHu h1 e g n i f (a l[k] (List.getElem_mem _)) (by omega)
def entO (body:List Int)(i:Nat):O:=⟨3,[],body,(3,i)⟩
theorem aOQ {body:List Int}(i:Nat)(a:AllB body)(b:body.length≤800000):(entO body i).Ok:=
 {k:=⟨by show(1:Int)≤3;decide,by show(3:Int)≤7;decide⟩
  ws:=fun x hx=>by cases hx
  tl:=a
  n:=by
   rw[O.body_len]
   show 8*0+body.length≤_
   omega}
theorem aNd (h:Hold m os hs mi es){body:List Int}(r:AllB body)(p:body.length≤800000):Hold (m.object (objB 3 body)) (os++ [entO body es.length]) hs mi (es++ [(m.b.length,body)]):=by
 have k:=h.rep.size
 have r1:=h.rep.push (entO body es.length) (aOQ _ r p)
 have l:=aCT os (entO body es.length)
 have f:=Stp.push os (entO body es.length) (fun _ _=>False)
 rw[←k]at l
 generalize os++ [entO body es.length]=o at*
 exact
  {rep:=r1
   td:=h.td.stp f (fun _ h=>h) (fun d g=>by obtain⟨j,a,_⟩:=h.dat_lt g;exact⟨⟨_,a⟩,fun h=>h⟩)
   tf:=h.tf.stp f (fun _ h=>h) (fun d g=>by obtain⟨j,a,_⟩:=h.fld_lt g;exact⟨⟨_,a⟩,fun h=>h⟩)
   dat:=fun i hi=>(h.dat i hi).stp rfl f (fun _ _ _ h=>h) (fun _ _ _ _ _ h=>h)
   fld:=fun i hi=>by
    have c:i<m.fields.length:=hi
    have F:=h.fld i c
    have n:wd o (m.fields[i]'c).at_ 2=wd os (m.fields[i]'c).at_ 2:=f.wd _ _ _ F.sh (fun h=>h)
    have fol:Fol (fun x=>wd o x 2) (wd o (m.fields[i]'c).at_ 2) (byN m.datas (m.fields[i]'c).text):=by
     rw[n]
     refine Fol.cong _ _ F.fol (fun x hx=>?_)
     obtain⟨d,g,_,e⟩:=aCi hx
     obtain⟨j,q,_⟩:=h.dat_lt g
     rw[←e]
     exact f.wd _ _ _ q (fun h=>h)
    exact {sh:=f.shp _ _ F.sh,w0:=(f.wd _ _ _ F.sh (fun h=>h)).trans F.w0,slot:=F.slot,fol:=fol}
   asc:=h.asc,ascF:=h.ascF,ownF:=h.ownF,dtx:=h.dtx,ftx:=h.ftx,none:=h.none
   mn:=h.mn.stp f (fun _ _ _ _ _ h=>h)
   ent:=fun i hi=>by
    by_cases e:i<es.length
    ·rw[List.getElem_append_left e]
     exact f.shp _ _ (h.ent i e)
    ·have n:i=es.length:=by rw[yA,List.length_singleton]at hi;omega
     subst n
     rw[List.getElem_append_right (yR _)]
     simp only[Nat.sub_self,List.getElem_singleton]
     rw[l,if_pos rfl]
     rfl
   cov:=fun x s hx=>by
    rw[l]at hx
    by_cases e:x=m.b.length
    ·exact .inr (.inr (.inr (.inr (.inl ⟨_,List.mem_append_right _ (List.mem_singleton.2 rfl),e.symm⟩))))
    ·rw[if_neg e]at hx
     rcases h.cov x s hx with a|a|a|a|⟨d,g,a⟩|a
     ·exact .inl a
     ·exact .inr (.inl a)
     ·exact .inr (.inr (.inl a))
     ·exact .inr (.inr (.inr (.inl a)))
     ·exact .inr (.inr (.inr (.inr (.inl ⟨d,List.mem_append_left _ g,a⟩))))
     ·exact .inr (.inr (.inr (.inr (.inr a))))}
theorem aC6 (m:Mk)(arr:List Nat)(n fr item:Nat):(Mk.link m arr n fr item).1.C=m.C∧(Mk.link m arr n fr item).1.datas=m.datas∧(Mk.link m arr n fr item).1.fields=m.fields∧(Mk.link m arr n fr item).1.main=m.main:=by
 unfold Mk.link
 split<;>exact⟨rfl,rfl,rfl,rfl⟩
theorem aGp {m':Mk}{c:List O}(h:Hold m os hs mi es)(n:m'.C=m.C)(f:m'.fields=m.fields)(r: ∀s,pl m'.datas s=pl m.datas s)(t: ∀s,lastIn m'.datas s=lastIn m.datas s)(q: ∀nm,byN m'.datas nm=byN m.datas nm)
 {S:Nat→Nat→Prop}(p:Stp os c S)(o: ∀x i s,shp os x=some s→S x i→s.k=6∨(s.k=1∧3≤i)):
 TabW c 272 4 m'.C.ds m'.datas∧TabW c (288+16*m'.C.ds) 5 m'.C.fs m'.fields∧(∀i (a:i<m'.fields.length),FldW m' c i m'.fields[i] m'.datas)∧(∀i (a:i<es.length),shp c es[i].1=some ⟨3,0,es[i].2,(3,i)⟩):=by
 obtain⟨A,v⟩:=h.td.sh
 obtain⟨B,w⟩:=h.tf.sh
 have n4: ∀i,¬S 272 i:=fun i a=>by rcases o _ _ _ v a with e|⟨e,_⟩<;>exact absurd e (by dsimp only;decide)
 have n5: ∀i,¬S (288+16*m.C.ds) i:=fun i a=>by rcases o _ _ _ w a with e|⟨e,_⟩<;>exact absurd e (by dsimp only;decide)
 have nd: ∀d∈m.datas,∀i,i<3→ ¬S d.at_ i:=fun d b i h3 a=>by
  obtain⟨j,l,_⟩:=h.dat_lt b
  rcases o _ _ _ l a with e|⟨_,e⟩
  ·exact absurd e (by dsimp only;decide)
  ·omega
 have nf: ∀d∈m.fields,∀i,¬S d.at_ i:=fun d b i a=>by
  obtain⟨j,l,_⟩:=h.fld_lt b
  rcases o _ _ _ l a with e|⟨e,_⟩<;>exact absurd e (by dsimp only;decide)
 have u:=h.td.stp p n4 (fun d b=>by obtain⟨j,l,_⟩:=h.dat_lt b;exact⟨⟨_,l⟩,nd d b 1 (by decide)⟩)
 have z:=h.tf.stp p n5 (fun d b=>by obtain⟨j,l,_⟩:=h.fld_lt b;exact⟨⟨_,l⟩,nf d b 1⟩)
 refine⟨?_,?_,?_,fun i a=>p.shp _ _ (h.ent i a)⟩
 ·rw[n]
  exact⟨u.sh,fun s hs=>by rw[r];exact u.fol s hs,fun s hs=>by rw[t];exact u.last s hs⟩
 ·rw[n,f];exact z
 ·intro i a
  have g:i<m.fields.length:=by rw[←f];exact a
  have e:m'.fields[i]=m.fields[i]:=by simp only[f]
  have F:=h.fld i g
  rw[e]
  exact
   {sh:=p.shp _ _ F.sh
    w0:=by rw[p.wd _ _ _ F.sh (nf _ (List.getElem_mem g) 0),aEB n];exact F.w0
    slot:=by rw[aEh n];exact F.slot
    fol:=by
     rw[p.wd _ _ _ F.sh (nf _ (List.getElem_mem g) 2),q]
     refine Fol.cong _ _ F.fol (fun x hx=>?_)
     obtain⟨d,b,_,e⟩:=aCi hx
     obtain⟨j,y,_⟩:=h.dat_lt b
     rw[←e]
     exact p.wd _ _ _ y (nd d b 2 (by decide))}
theorem aHv (h:Hold m os hs mi es)(E:m.b.length≤10000000){item:Nat}(t:item≤10000000): ∃d,Hold (Mk.linked m item mi.length) d hs (mi++ [item]) es:=by
 obtain⟨d,r,w,p,g,_,_,_⟩:=aN8 (fx:=none) (fr:=176) h.rep h.mn (by show 176+8≤272;decide) E t
 obtain⟨H,u,A,J⟩:=aC6 m m.main mi.length 176 item
 have G: ∀x i s,shp os x=some s→LinkS os 0 none x i→s.k=6∨(s.k=1∧3≤i):=fun x i s l hl=>by
  rcases hl with a|⟨k,n,a⟩
  ·cases a
  ·rw[l]at a;injection a with a;exact .inl (by rw[a])
 have o:(Mk.linked m item mi.length).C=m.C:=H
 have c:(Mk.linked m item mi.length).datas=m.datas:=u
 have f:(Mk.linked m item mi.length).fields=m.fields:=A
 obtain⟨z,v,y,B⟩:=aGp (m':=Mk.linked m item mi.length) h o f (fun s=>by rw[c]) (fun s=>by rw[c]) (fun s=>by rw[c]) p G
 refine⟨d,
  {rep:=r,td:=z,tf:=v,dat:=?_,fld:=y,asc:=by rw[c];exact h.asc,ascF:=by rw[f];exact h.ascF,ownF:=by rw[c,f];exact h.ownF
   dtx:=by rw[c];exact h.dtx,ftx:=by rw[f];exact h.ftx,none:=by rw[c];exact h.none,mn:=w,ent:=B,cov:=?_}⟩
 ·intro i F
  have q:i<m.datas.length:=by rw[←c];exact F
  have e:(Mk.linked m item mi.length).datas[i]=m.datas[i]:=by simp only[c]
  rw[e]
  have D:=h.dat i q
  refine D.stp o p (fun j _ _ hl=>?_) (fun x j k n l hl=>?_)
  ·rcases hl with a|⟨k,n,a⟩
   ·cases a
   ·rw[D.sh]at a;injection a with a;injection a with a;exact absurd a (by decide)
  ·rcases hl with a|⟨I,n2,a⟩
   ·cases a
   ·rw[l]at a;injection a with a;injection a with _ _ _ a;injection a with a;omega
 ·intro x s l
  rw[o,c,f]
  rcases g x s l with a|⟨k,n,a⟩
  ·exact h.cov x s a
  ·exact .inr (.inr (.inr (.inr (.inr (by rw[a])))))
theorem map_set {α:Type}(f:Kn→α)(l:List Kn)(j:Nat)(d:Kn)(a: ∀h:j<l.length,f d=f l[j]):(l.set j d).map f=l.map f:=by
 refine List.ext_getElem (by simp) (fun i h1 h2=>?_)
 rw[List.getElem_map,List.getElem_map,List.getElem_set]
 split
 ·next e=>subst e;exact a _
 ·rfl
theorem aOc (l:List Kn)(s:Nat):pl l s=((l.map fun k=>(k.slot,k.at_)).filter fun p=>p.1==s).map (·.2):=by
 unfold pl
 rw[List.filter_map,List.map_map]
 rfl
theorem aGq (l:List Kn)(s:Nat):lastIn l s=((pl l s).getLast?).getD 0:=by
 unfold lastIn pl
 rw[List.getLast?_map]
theorem aKL (l:List Kn)(a:List Int):byN l a=(((l.map fun k=>(k.text,k.at_)).filter fun p=>nameL p.1==a).map (·.2)).reverse:=by
 unfold byN
 rw[List.filter_map,List.map_map]
 rfl
theorem aKM (h:Hold m os hs mi es)(hb:m.b.length≤10000000){e j:Nat}(V:j<m.datas.length)(he:e≤10000000)(af: ∀k∈m.datas,k.count≤10000000): ∃os',Hold (Mk.mark e m j) os' (fun i=>if i=j then hs j++ [e]else hs i) mi es:=by
 have D:=h.dat j V
 have hk:Mk.kn m j=m.datas[j]:=by unfold Mk.kn;rw[yD,yG V];rfl
 have aj:=h.rep.size
 have ae:=aBn D.sh
 dsimp only at ae
 have hv:0≤(e:Int)∧(e:Int)≤18446744073709551615:=by omega
 rw[aC3,hk]
 have ag: ∃o,RepO (Mk.hitched e m j).1.b o∧Stp os o (fun x i=>(x=m.datas[j].at_∧(i=3∨i=4))∨ ∃k n,shp os x=some ⟨6,n,[],(j+1,k)⟩)∧(∀x s,shp o x=some s→shp os x=some s∨s.k=6)∧
  wd o m.datas[j].at_ 3=((hs j++ [e]).headD 0:Nat)∧wd o m.datas[j].at_ 4=((Mk.hitched e m j).2.headD 0:Nat)∧ArrW o (j+1) (Mk.hitched e m j).2 (hs j++ [e]).tail∧
  (Mk.hitched e m j).1.C=m.C∧(Mk.hitched e m j).1.datas=m.datas∧(Mk.hitched e m j).1.fields=m.fields∧(Mk.hitched e m j).1.main=m.main:=by
  unfold Mk.hitched
  rw[hk]
  by_cases h0:m.datas[j].count=0
  ·rw[if_pos h0]
   have z:hs j=[]:=List.eq_nil_of_length_eq_zero (by have:=D.cnt;omega)
   have r1:=h.rep.put D.sh (j:=3) (x:=m.datas[j].at_+40) (by first|decide|(dsimp only;decide)) (by omega) hv
   have M:=fun x=>aAU os m.datas[j].at_ 3 x (e:Int)
   have w1:=aBz D.sh (j:=3) (by first|decide|(dsimp only;decide)) (e:Int)
   have B:=Stp.set D.sh (j:=3) (by first|decide|(dsimp only;decide)) (e:Int)
   generalize upd 272 os m.datas[j].at_ (O.setW 3 (e:Int))=o1 at*
   refine⟨o1,r1,B.mono fun x i _ _ c=> .inl ⟨c.1,.inl c.2⟩,fun x s c=> .inl (by rw[←M];exact c),?_,?_,?_,rfl,rfl,rfl,rfl⟩
   ·rw[w1,if_pos ⟨rfl,rfl⟩,z];rfl
   ·rw[w1,if_neg (fun c=>absurd c.2 (by decide))];exact D.w4
   ·have I:=D.arr
    rw[z]at I⊢
    exact I.stp B (fun x i k n c N=>by
     rw[N.1,D.sh]at c
     injection c with c
     injection c with c
     exact absurd c (by decide))
  ·rw[if_neg h0]
   obtain⟨a,r,v⟩: ∃a r,hs j=a::r:=by
    cases hh:hs j with
    |nil=>have:=D.cnt;rw[hh]at this;exact absurd this h0
    |cons a r=>exact⟨a,r,rfl⟩
   have ab:m.datas[j].count-1=r.length:=by have:=D.cnt;rw[v,List.length_cons]at this;omega
   have I:=D.arr
   rw[v]at I
   obtain⟨o1,r1,w1,B,M,f1,f2,f3⟩:=aN8 (fx:=some (m.datas[j].at_,4)) (fr:=m.datas[j].at_+48) h.rep I ⟨by omega,_,D.sh,by first|decide|(dsimp only;decide),by first|decide|(dsimp only;decide)⟩ hb he
   obtain⟨E,R,F,X⟩:=aC6 m m.datas[j].arrays (m.datas[j].count-1) (m.datas[j].at_+48) e
   dsimp only
   rw[ab]at E R F X⊢
   rw[show(a::r).tail=r from rfl]at r1 w1 f1 f3
   refine⟨o1,r1,B.mono fun x i _ _ c=>c.elim (fun c=> .inl (by injection c with c;injection c with hx1 g;exact⟨hx1.symm,.inr g.symm⟩)) .inr,fun x s c=>(M x s c).imp id (fun⟨k,n,c⟩=>by rw[c]),?_,?_,?_,E,R,F,X⟩
   ·rw[B.wd _ 3 _ D.sh (fun c=>?_),D.w3,v]
    ·rfl
    ·rcases c with c|⟨k,n,c⟩
     ·injection c with c;injection c with _ c;exact absurd c (by decide)
     ·rw[D.sh]at c;injection c with c;injection c with c;exact absurd c (by decide)
   ·by_cases hl:m.datas[j].arrays.length=0
    ·exact f1 _ _ rfl hl
    ·rw[f2 _ _ rfl (by omega),f3 (by omega)];exact D.w4
   ·rw[v];exact w1
 obtain⟨o,r1,B,M,w3,w4,wa,E,R,F,X⟩:=ag
 have w:=B.shp _ _ D.sh
 generalize hh:Mk.hitched e m j=H at*
 obtain⟨A,H2⟩:=H
 dsimp only at*
 have ad:0≤((m.datas[j].count+1:Nat):Int)∧((m.datas[j].count+1:Nat):Int)≤18446744073709551615:=by
  have t:=af _ (List.getElem_mem V)
  omega
 have r2:=r1.put w (j:=5) (x:=m.datas[j].at_+56) (by first|decide|(dsimp only;decide)) (by omega) ad
 have q2:=fun x=>aAU o m.datas[j].at_ 5 x ((m.datas[j].count+1:Nat):Int)
 have w2:=aBz w (j:=5) (by first|decide|(dsimp only;decide)) ((m.datas[j].count+1:Nat):Int)
 have s2:=Stp.set w (j:=5) (by first|decide|(dsimp only;decide)) ((m.datas[j].count+1:Nat):Int)
 generalize upd 272 o m.datas[j].at_ (O.setW 5 ((m.datas[j].count+1:Nat):Int))=u at*
 have st:Stp os u (fun x i=>(x=m.datas[j].at_∧(i=3∨i=4∨i=5))∨ ∃k n,shp os x=some ⟨6,n,[],(j+1,k)⟩):=
  (B.mono fun x i _ _ c=>c.imp (fun c=>⟨c.1,by omega⟩) id).trans ⟨s2.shp,fun x i s c hn=>s2.wd x i s c (fun g=>hn (.inl ⟨g.1,by omega⟩))⟩
 have N: ∀x i s,shp os x=some s→((x=m.datas[j].at_∧(i=3∨i=4∨i=5))∨ ∃k n,shp os x=some ⟨6,n,[],(j+1,k)⟩)→s.k=6∨(s.k=1∧3≤i):=fun x i s c hl=>by
  rcases hl with⟨l,h2⟩|⟨k,n,l⟩
  ·rw[l,D.sh]at c;injection c with c;exact .inr ⟨by rw[←c],by omega⟩
  ·rw[c]at l;injection l with l;exact .inl (by rw[l])
 obtain⟨nd,p⟩: ∃nd:Kn,nd={m.datas[j]with count:=m.datas[j].count+1,arrays:=H2}:=⟨_,rfl⟩
 rw[←p]
 have G:nd.at_=m.datas[j].at_:=by rw[p]
 have n2:nd.slot=m.datas[j].slot:=by rw[p]
 have n3:nd.text=m.datas[j].text:=by rw[p]
 have Y:=fun(α:Type) (f:Kn→α) (hf:f nd=f m.datas[j])=>map_set f m.datas j nd (fun _=>hf)
 have L: ∀s,pl (m.datas.set j nd) s=pl m.datas s:=fun s=>by
  rw[aOc,aOc,Y _ (fun k=>(k.slot,k.at_)) (by rw[G,n2])]
 have aa: ∀nm,byN (m.datas.set j nd) nm=byN m.datas nm:=fun nm=>by
  rw[aKL,aKL,Y _ (fun k=>(k.text,k.at_)) (by rw[G,n3])]
 rw[R]
 obtain⟨t1,t2,t3,t4⟩:=aGp (m':={A with b:=put8 A.b (m.datas[j].at_+56) ((m.datas[j].count+1:Nat):Int),datas:=m.datas.set j nd}) h E F L (fun s=>by
  show lastIn (m.datas.set j nd) s=_
  rw[aGq,aGq,L]) aa st N
 have J:(m.datas.set j nd).map Kn.at_=m.datas.map Kn.at_:=Y _ Kn.at_ G
 have ai:(m.datas.set j nd).map Kn.text=m.datas.map Kn.text:=Y _ Kn.text n3
 refine⟨u,
  {rep:=r2,td:=t1,tf:=t2,dat:=?_,fld:=t3,asc:=?_,ascF:=?_,ownF:=?_,dtx:=?_,ftx:=?_,none:=?_,mn:=?_,ent:=t4,cov:=?_}⟩
 ·intro i hi
  have q:i<(m.datas.set j nd).length:=hi
  have ah:i<m.datas.length:=by rw[List.length_set]at q;exact q
  show DatW _ u i ((m.datas.set j nd)[i]'q) (if i=j then hs j++ [e]else hs i)
  rw[List.getElem_set]
  by_cases y:i=j
  ·subst y
   rw[if_pos rfl,if_pos rfl]
   have ac: ∀a,a≠3→a≠4→a≠5→wd u m.datas[i].at_ a=wd os m.datas[i].at_ a:=fun a h3 h4 t=>st.wd _ _ _ D.sh (by
    rintro(c|⟨k,n,c⟩)
    ·omega
    ·rw[D.sh]at c;injection c with c;injection c with c;exact absurd c (by decide))
   exact
    {sh:=by rw[G,n3];exact st.shp _ _ D.sh
     w0:=by rw[G,n3,ac 0 (by decide) (by decide) (by decide),D.w0];exact(aEB (m:=m) E _).symm
     w3:=by rw[G,w2,if_neg (fun c=>absurd c.2 (by decide))];exact w3
     w4:=by rw[G,w2,if_neg (fun c=>absurd c.2 (by decide)),p];exact w4
     w5:=by rw[G,w2,if_pos ⟨rfl,rfl⟩,p]
     cnt:=by rw[p,yA,List.length_singleton,←D.cnt]
     slot:=by rw[n2,n3,D.slot];exact(aHt (m:=m) E _).symm
     arr:=by
      rw[p]
      exact wa.stp s2 (fun x k2 k n c N=>by
       rw[N.1,w]at c
       injection c with c
       injection c with c
       exact absurd c (by decide))}
  ·rw[if_neg (fun h=>y h.symm),if_neg y]
   have D2:=h.dat i ah
   refine D2.stp E st (fun a _ _ c=>?_) (fun x a k n c g=>?_)
   ·rcases c with⟨c,_⟩|⟨k,n,c⟩
    ·have t:=D2.sh
     rw[c,D.sh]at t
     injection t with t
     injection t with _ _ _ t
     injection t with _ t
     exact y t.symm
    ·rw[D2.sh]at c;injection c with c;injection c with c;exact absurd c (by decide)
   ·rcases g with⟨g,_⟩|⟨k2,n2,g⟩
    ·rw[g,D.sh]at c;injection c with c;injection c with c;exact absurd c (by decide)
    ·rw[c]at g;injection g with g;injection g with _ _ _ g;injection g with g;omega
 ·show((m.datas.set j nd).map Kn.at_).Pairwise (· < ·)
  rw[J];exact h.asc
 ·show Asc A.fields
  rw[F];exact h.ascF
 ·intro d hd
  have Z:d∈m.datas.set j nd:=hd
  show ∃f∈A.fields,_
  rw[F]
  rcases List.mem_or_eq_of_mem_set Z with l|l
  ·exact h.ownF d l
  ·rw[l,n3];exact h.ownF _ (List.getElem_mem V)
 ·show((m.datas.set j nd).map Kn.text).Nodup
  rw[ai];exact h.dtx
 ·show(A.fields.map Kn.text).Nodup
  rw[F];exact h.ftx
 ·intro i hi
  have q:(m.datas.set j nd).length≤i:=hi
  rw[List.length_set]at q
  show(if i=j then hs j++ [e]else hs i)=[]
  rw[if_neg (by omega)]
  exact h.none i q
 ·show ArrW u 0 A.main mi
  rw[X]
  refine h.mn.stp st (fun x a k n c g=>?_)
  rcases g with⟨g,_⟩|⟨k2,n2,g⟩
  ·rw[g,D.sh]at c;injection c with c;injection c with c;exact absurd c (by decide)
  ·rw[c]at g;injection g with g;injection g with _ _ _ g;injection g with g;omega
 ·intro x s c
  rw[q2]at c
  show x=272∨x=288+16*A.C.ds∨(∃d∈m.datas.set j nd,d.at_=x)∨(∃f∈A.fields,f.at_=x)∨_
  rw[E,F]
  rcases M x s c with l|l
  ·rcases h.cov x s l with l|l|⟨d,hd,l⟩|l
   ·exact .inl l
   ·exact .inr (.inl l)
   ·refine .inr (.inr (.inl ?_))
    have t:x∈(m.datas.set j nd).map Kn.at_:=by rw[J];exact l▸List.mem_map_of_mem hd
    obtain⟨d2,h6,h7⟩:=List.mem_map.1 t
    exact⟨d2,h6,h7⟩
   ·exact .inr (.inr (.inr l))
  ·exact .inr (.inr (.inr (.inr (.inr l))))
end Zf
end Go.Proofs.YteaikbodkgjkdaaGreat
