/-
  Texts beneath the proof.
-/
import Derived.Test.YtiddkgcafpaekaaGreatJq23
set_option linter.unusedVariables false
set_option linter.unusedSimpArgs false
set_option maxRecDepth 100000
namespace Go.Proofs.YtiddkgcafpaekaaGreat
namespace Zf
open Bytes8 Ob Ga Ma Mb Mg Na Nc Nh Nl Fa Za Zb Zc Zd Ze Pr8
variable {m : Mk} {os : List O} {hs : Nat → List Nat} {mi : List Nat} {es : List (Nat × List Int)}
theorem hold_dataOf (h:Hold m os hs mi es)(I:Inv m){n v:List Int}(hn:AllB n)(hv:AllB v)(hnl:n.length≤64)(hvl:v.length≤256)(h61: ∀x∈n,x≠61)(hb:m.b.length≤1000000): ∃os',Hold (Mk.dataOf m n (pay n v)).2 os' hs mi es:=by
 unfold Mk.dataOf
 cases e:idxK m.datas (pay n v)with
 |some i=>exact⟨os,h⟩
 |none=>
  refine hold_new h I (pay_all hn hv) (by rw[Nee.pay_len];omega) hn hnl (nameL_pay n v h61) (fun d hd=>?_) hb
  unfold idxK at e
  have:=List.findIdx?_eq_none_iff.1 e d hd
  simpa using this
theorem hold_dataAll (h:Hold m os hs mi es)(I:Inv m)(l:List PR)(hl: ∀q∈l,AllB q.1∧AllB q.2∧q.1.length≤64∧q.2.length≤256)(h61: ∀q∈l,∀x∈q.1,x≠61)(h16:l.length≤16)(hb:m.b.length≤900000): ∀k,k≤l.length→ ∃os',Hold (Mk.dataAll m (l.take k)).1 os' hs mi es
 |0,_=>⟨os,h⟩
 |k+1,hk=>by
  obtain⟨o1,h1⟩:=hold_dataAll h I l hl h61 h16 hb k (by omega)
  obtain⟨i1,i2,i3,i4,i5⟩:=inv_dataAll I l hl k (by omega)
  obtain⟨q1,q2,q3,q4⟩:=hl l[k] (List.getElem_mem _)
  rw[dataAll_step m l k (by omega)]
  exact hold_dataOf h1 i1 q1 q2 q3 q4 (h61 l[k] (List.getElem_mem _)) (by omega)
def entO (body:List Int)(i:Nat):O:=⟨3,[],body,(3,i)⟩
theorem entO_ok {body:List Int}(i:Nat)(hB:AllB body)(hl:body.length≤800000):(entO body i).Ok:=
 {k:=⟨by show(1:Int)≤3;decide,by show(3:Int)≤7;decide⟩
  ws:=fun x hx=>by cases hx
  tl:=hB
  n:=by
   rw[O.body_len]
   show 8*0+body.length≤_
   omega}
theorem hold_ent (h:Hold m os hs mi es){body:List Int}(hB:AllB body)(hl:body.length≤800000):Hold (m.object (objB 3 body)) (os++ [entO body es.length]) hs mi (es++ [(m.b.length,body)]):=by
 have hsz:=h.rep.size
 have r1:=h.rep.push (entO body es.length) (entO_ok _ hB hl)
 have q1:=shp_push os (entO body es.length)
 have se:=Stp.push os (entO body es.length) (fun _ _=>False)
 rw[←hsz]at q1
 generalize os++ [entO body es.length]=o1 at*
 exact
  {rep:=r1
   td:=h.td.stp se (fun _ h=>h) (fun d hd=>by obtain⟨j,h1,_⟩:=h.dat_lt hd;exact⟨⟨_,h1⟩,fun h=>h⟩)
   tf:=h.tf.stp se (fun _ h=>h) (fun d hd=>by obtain⟨j,h1,_⟩:=h.fld_lt hd;exact⟨⟨_,h1⟩,fun h=>h⟩)
   dat:=fun i hi=>(h.dat i hi).stp rfl se (fun _ _ _ h=>h) (fun _ _ _ _ _ h=>h)
   fld:=fun i hi=>by
    have hi2:i<m.fields.length:=hi
    have F:=h.fld i hi2
    have e2:wd o1 (m.fields[i]'hi2).at_ 2=wd os (m.fields[i]'hi2).at_ 2:=se.wd _ _ _ F.sh (fun h=>h)
    have fol:Fol (fun x=>wd o1 x 2) (wd o1 (m.fields[i]'hi2).at_ 2) (byN m.datas (m.fields[i]'hi2).text):=by
     rw[e2]
     refine Fol.cong _ _ F.fol (fun x hx=>?_)
     obtain⟨d,hd,_,e⟩:=mem_byN hx
     obtain⟨j,h2,_⟩:=h.dat_lt hd
     rw[←e]
     exact se.wd _ _ _ h2 (fun h=>h)
    exact {sh:=se.shp _ _ F.sh,w0:=(se.wd _ _ _ F.sh (fun h=>h)).trans F.w0,slot:=F.slot,fol:=fol}
   asc:=h.asc,ascF:=h.ascF,ownF:=h.ownF,dtx:=h.dtx,ftx:=h.ftx,none:=h.none
   mn:=h.mn.stp se (fun _ _ _ _ _ h=>h)
   ent:=fun i hi=>by
    by_cases e:i<es.length
    ·rw[List.getElem_append_left e]
     exact se.shp _ _ (h.ent i e)
    ·have e2:i=es.length:=by rw[List.length_append,List.length_singleton]at hi;omega
     subst e2
     rw[List.getElem_append_right (yR _)]
     simp only[Nat.sub_self,List.getElem_singleton]
     rw[q1,if_pos rfl]
     rfl
   cov:=fun x s hx=>by
    rw[q1]at hx
    by_cases e:x=m.b.length
    ·exact .inr (.inr (.inr (.inr (.inl ⟨_,List.mem_append_right _ (List.mem_singleton.2 rfl),e.symm⟩))))
    ·rw[if_neg e]at hx
     rcases h.cov x s hx with h1|h1|h1|h1|⟨d,hd,h1⟩|h1
     ·exact .inl h1
     ·exact .inr (.inl h1)
     ·exact .inr (.inr (.inl h1))
     ·exact .inr (.inr (.inr (.inl h1)))
     ·exact .inr (.inr (.inr (.inr (.inl ⟨d,List.mem_append_left _ hd,h1⟩))))
     ·exact .inr (.inr (.inr (.inr (.inr h1))))}
theorem link_parts (m:Mk)(arr:List Nat)(n fr item:Nat):(Mk.link m arr n fr item).1.C=m.C∧(Mk.link m arr n fr item).1.datas=m.datas∧(Mk.link m arr n fr item).1.fields=m.fields∧(Mk.link m arr n fr item).1.main=m.main:=by
 unfold Mk.link
 split<;>exact⟨rfl,rfl,rfl,rfl⟩
theorem hold_rest {m':Mk}{os':List O}(h:Hold m os hs mi es)(hC:m'.C=m.C)(hfl:m'.fields=m.fields)(hpl: ∀s,pl m'.datas s=pl m.datas s)(hla: ∀s,lastIn m'.datas s=lastIn m.datas s)(hby: ∀nm,byN m'.datas nm=byN m.datas nm)
 {S:Nat→Nat→Prop}(p:Stp os os' S)(hS: ∀x i s,shp os x=some s→S x i→s.k=6∨(s.k=1∧3≤i)):
 TabW os' 272 4 m'.C.ds m'.datas∧TabW os' (288+16*m'.C.ds) 5 m'.C.fs m'.fields∧(∀i (hi:i<m'.fields.length),FldW m' os' i m'.fields[i] m'.datas)∧(∀i (hi:i<es.length),shp os' es[i].1=some ⟨3,0,es[i].2,(3,i)⟩):=by
 obtain⟨g4,hg4⟩:=h.td.sh
 obtain⟨g5,hg5⟩:=h.tf.sh
 have n4: ∀i,¬S 272 i:=fun i hi=>by rcases hS _ _ _ hg4 hi with e|⟨e,_⟩<;>exact absurd e (by dsimp only;decide)
 have n5: ∀i,¬S (288+16*m.C.ds) i:=fun i hi=>by rcases hS _ _ _ hg5 hi with e|⟨e,_⟩<;>exact absurd e (by dsimp only;decide)
 have nd: ∀d∈m.datas,∀i,i<3→ ¬S d.at_ i:=fun d hd i h3 hi=>by
  obtain⟨j,h1,_⟩:=h.dat_lt hd
  rcases hS _ _ _ h1 hi with e|⟨_,e⟩
  ·exact absurd e (by dsimp only;decide)
  ·omega
 have nf: ∀d∈m.fields,∀i,¬S d.at_ i:=fun d hd i hi=>by
  obtain⟨j,h1,_⟩:=h.fld_lt hd
  rcases hS _ _ _ h1 hi with e|⟨e,_⟩<;>exact absurd e (by dsimp only;decide)
 have t4:=h.td.stp p n4 (fun d hd=>by obtain⟨j,h1,_⟩:=h.dat_lt hd;exact⟨⟨_,h1⟩,nd d hd 1 (by decide)⟩)
 have t5:=h.tf.stp p n5 (fun d hd=>by obtain⟨j,h1,_⟩:=h.fld_lt hd;exact⟨⟨_,h1⟩,nf d hd 1⟩)
 refine⟨?_,?_,?_,fun i hi=>p.shp _ _ (h.ent i hi)⟩
 ·rw[hC]
  exact⟨t4.sh,fun s hs=>by rw[hpl];exact t4.fol s hs,fun s hs=>by rw[hla];exact t4.last s hs⟩
 ·rw[hC,hfl];exact t5
 ·intro i hi
  have hi2:i<m.fields.length:=by rw[←hfl];exact hi
  have e:m'.fields[i]=m.fields[i]:=by simp only[hfl]
  have F:=h.fld i hi2
  rw[e]
  exact
   {sh:=p.shp _ _ F.sh
    w0:=by rw[p.wd _ _ _ F.sh (nf _ (List.getElem_mem hi2) 0),sum_C hC];exact F.w0
    slot:=by rw[fslot_C hC];exact F.slot
    fol:=by
     rw[p.wd _ _ _ F.sh (nf _ (List.getElem_mem hi2) 2),hby]
     refine Fol.cong _ _ F.fol (fun x hx=>?_)
     obtain⟨d,hd,_,e⟩:=mem_byN hx
     obtain⟨j,h2,_⟩:=h.dat_lt hd
     rw[←e]
     exact p.wd _ _ _ h2 (nd d hd 2 (by decide))}
theorem hold_linked (h:Hold m os hs mi es)(hb:m.b.length≤10000000){item:Nat}(hit:item≤10000000): ∃os',Hold (Mk.linked m item mi.length) os' hs (mi++ [item]) es:=by
 obtain⟨os',r,w,p,hnew,_,_,_⟩:=link_W (fx:=none) (fr:=176) h.rep h.mn (by show 176+8≤272;decide) hb hit
 obtain⟨c1,c2,c3,c4⟩:=link_parts m m.main mi.length 176 item
 have hS: ∀x i s,shp os x=some s→LinkS os 0 none x i→s.k=6∨(s.k=1∧3≤i):=fun x i s hx hl=>by
  rcases hl with h1|⟨k,n,h1⟩
  ·cases h1
  ·rw[hx]at h1;injection h1 with h1;exact .inl (by rw[h1])
 have hC:(Mk.linked m item mi.length).C=m.C:=c1
 have hd:(Mk.linked m item mi.length).datas=m.datas:=c2
 have hf:(Mk.linked m item mi.length).fields=m.fields:=c3
 obtain⟨t1,t2,t3,t4⟩:=hold_rest (m':=Mk.linked m item mi.length) h hC hf (fun s=>by rw[hd]) (fun s=>by rw[hd]) (fun s=>by rw[hd]) p hS
 refine⟨os',
  {rep:=r,td:=t1,tf:=t2,dat:=?_,fld:=t3,asc:=by rw[hd];exact h.asc,ascF:=by rw[hf];exact h.ascF,ownF:=by rw[hd,hf];exact h.ownF
   dtx:=by rw[hd];exact h.dtx,ftx:=by rw[hf];exact h.ftx,none:=by rw[hd];exact h.none,mn:=w,ent:=t4,cov:=?_}⟩
 ·intro i hi
  have hi2:i<m.datas.length:=by rw[←hd];exact hi
  have e:(Mk.linked m item mi.length).datas[i]=m.datas[i]:=by simp only[hd]
  rw[e]
  have D:=h.dat i hi2
  refine D.stp hC p (fun j _ _ hl=>?_) (fun x j k n hx hl=>?_)
  ·rcases hl with h1|⟨k,n,h1⟩
   ·cases h1
   ·rw[D.sh]at h1;injection h1 with h1;injection h1 with h1;exact absurd h1 (by decide)
  ·rcases hl with h1|⟨k2,n2,h1⟩
   ·cases h1
   ·rw[hx]at h1;injection h1 with h1;injection h1 with _ _ _ h1;injection h1 with h1;omega
 ·intro x s hx
  rw[hC,hd,hf]
  rcases hnew x s hx with h1|⟨k,n,h1⟩
  ·exact h.cov x s h1
  ·exact .inr (.inr (.inr (.inr (.inr (by rw[h1])))))
theorem map_set {α:Type}(f:Kn→α)(l:List Kn)(j:Nat)(d:Kn)(hd: ∀h:j<l.length,f d=f l[j]):(l.set j d).map f=l.map f:=by
 refine List.ext_getElem (by simp) (fun i h1 h2=>?_)
 rw[List.getElem_map,List.getElem_map,List.getElem_set]
 split
 ·next e=>subst e;exact hd _
 ·rfl
theorem pl_map (l:List Kn)(s:Nat):pl l s=((l.map fun k=>(k.slot,k.at_)).filter fun p=>p.1==s).map (·.2):=by
 unfold pl
 rw[List.filter_map,List.map_map]
 rfl
theorem lastIn_pl (l:List Kn)(s:Nat):lastIn l s=((pl l s).getLast?).getD 0:=by
 unfold lastIn pl
 rw[List.getLast?_map]
theorem byN_map (l:List Kn)(nm:List Int):byN l nm=(((l.map fun k=>(k.text,k.at_)).filter fun p=>nameL p.1==nm).map (·.2)).reverse:=by
 unfold byN
 rw[List.filter_map,List.map_map]
 rfl
theorem hold_mark (h:Hold m os hs mi es)(hb:m.b.length≤10000000){e j:Nat}(hj:j<m.datas.length)(he:e≤10000000)(hct: ∀k∈m.datas,k.count≤10000000): ∃os',Hold (Mk.mark e m j) os' (fun i=>if i=j then hs j++ [e]else hs i) mi es:=by
 have D:=h.dat j hj
 have hk:Mk.kn m j=m.datas[j]:=by unfold Mk.kn;rw[List.getD_eq_getElem?_getD,List.getElem?_eq_getElem hj];rfl
 have hsz:=h.rep.size
 have hat:=shp_lt D.sh
 dsimp only at hat
 have hv:0≤(e:Int)∧(e:Int)≤18446744073709551615:=by omega
 rw[mark_is,hk]
 have key: ∃os1,RepO (Mk.hitched e m j).1.b os1∧Stp os os1 (fun x i=>(x=m.datas[j].at_∧(i=3∨i=4))∨ ∃k n,shp os x=some ⟨6,n,[],(j+1,k)⟩)∧(∀x s,shp os1 x=some s→shp os x=some s∨s.k=6)∧
  wd os1 m.datas[j].at_ 3=((hs j++ [e]).headD 0:Nat)∧wd os1 m.datas[j].at_ 4=((Mk.hitched e m j).2.headD 0:Nat)∧ArrW os1 (j+1) (Mk.hitched e m j).2 (hs j++ [e]).tail∧
  (Mk.hitched e m j).1.C=m.C∧(Mk.hitched e m j).1.datas=m.datas∧(Mk.hitched e m j).1.fields=m.fields∧(Mk.hitched e m j).1.main=m.main:=by
  unfold Mk.hitched
  rw[hk]
  by_cases h0:m.datas[j].count=0
  ·rw[if_pos h0]
   have hnil:hs j=[]:=List.eq_nil_of_length_eq_zero (by have:=D.cnt;omega)
   have r1:=h.rep.put D.sh (j:=3) (x:=m.datas[j].at_+40) (by first|decide|(dsimp only;decide)) (by omega) hv
   have q1:=fun x=>shp_set os m.datas[j].at_ 3 x (e:Int)
   have w1:=wd_set D.sh (j:=3) (by first|decide|(dsimp only;decide)) (e:Int)
   have s1:=Stp.set D.sh (j:=3) (by first|decide|(dsimp only;decide)) (e:Int)
   generalize upd 272 os m.datas[j].at_ (O.setW 3 (e:Int))=o1 at*
   refine⟨o1,r1,s1.mono fun x i _ _ hx=> .inl ⟨hx.1,.inl hx.2⟩,fun x s hx=> .inl (by rw[←q1];exact hx),?_,?_,?_,rfl,rfl,rfl,rfl⟩
   ·rw[w1,if_pos ⟨rfl,rfl⟩,hnil];rfl
   ·rw[w1,if_neg (fun hx=>absurd hx.2 (by decide))];exact D.w4
   ·have ha:=D.arr
    rw[hnil]at ha⊢
    exact ha.stp s1 (fun x i k n hx hS=>by
     rw[hS.1,D.sh]at hx
     injection hx with hx
     injection hx with hx
     exact absurd hx (by decide))
  ·rw[if_neg h0]
   obtain⟨a,r,har⟩: ∃a r,hs j=a::r:=by
    cases hh:hs j with
    |nil=>have:=D.cnt;rw[hh]at this;exact absurd this h0
    |cons a r=>exact⟨a,r,rfl⟩
   have hcn:m.datas[j].count-1=r.length:=by have:=D.cnt;rw[har,List.length_cons]at this;omega
   have ha:=D.arr
   rw[har]at ha
   obtain⟨o1,r1,w1,s1,q1,f1,f2,f3⟩:=link_W (fx:=some (m.datas[j].at_,4)) (fr:=m.datas[j].at_+48) h.rep ha ⟨by omega,_,D.sh,by first|decide|(dsimp only;decide),by first|decide|(dsimp only;decide)⟩ hb he
   obtain⟨c1,c2,c3,c4⟩:=link_parts m m.datas[j].arrays (m.datas[j].count-1) (m.datas[j].at_+48) e
   dsimp only
   rw[hcn]at c1 c2 c3 c4⊢
   rw[show(a::r).tail=r from rfl]at r1 w1 f1 f3
   refine⟨o1,r1,s1.mono fun x i _ _ hx=>hx.elim (fun hx=> .inl (by injection hx with hx;injection hx with hx1 hx2;exact⟨hx1.symm,.inr hx2.symm⟩)) .inr,fun x s hx=>(q1 x s hx).imp id (fun⟨k,n,hx⟩=>by rw[hx]),?_,?_,?_,c1,c2,c3,c4⟩
   ·rw[s1.wd _ 3 _ D.sh (fun hx=>?_),D.w3,har]
    ·rfl
    ·rcases hx with hx|⟨k,n,hx⟩
     ·injection hx with hx;injection hx with _ hx;exact absurd hx (by decide)
     ·rw[D.sh]at hx;injection hx with hx;injection hx with hx;exact absurd hx (by decide)
   ·by_cases hl:m.datas[j].arrays.length=0
    ·exact f1 _ _ rfl hl
    ·rw[f2 _ _ rfl (by omega),f3 (by omega)];exact D.w4
   ·rw[har];exact w1
 obtain⟨os1,r1,s1,q1,w3,w4,wa,c1,c2,c3,c4⟩:=key
 have hd1:=s1.shp _ _ D.sh
 generalize hh:Mk.hitched e m j=H at*
 obtain⟨H1,H2⟩:=H
 dsimp only at*
 have hcb:0≤((m.datas[j].count+1:Nat):Int)∧((m.datas[j].count+1:Nat):Int)≤18446744073709551615:=by
  have h5:=hct _ (List.getElem_mem hj)
  omega
 have r2:=r1.put hd1 (j:=5) (x:=m.datas[j].at_+56) (by first|decide|(dsimp only;decide)) (by omega) hcb
 have q2:=fun x=>shp_set os1 m.datas[j].at_ 5 x ((m.datas[j].count+1:Nat):Int)
 have w2:=wd_set hd1 (j:=5) (by first|decide|(dsimp only;decide)) ((m.datas[j].count+1:Nat):Int)
 have s2:=Stp.set hd1 (j:=5) (by first|decide|(dsimp only;decide)) ((m.datas[j].count+1:Nat):Int)
 generalize upd 272 os1 m.datas[j].at_ (O.setW 5 ((m.datas[j].count+1:Nat):Int))=os2 at*
 have st:Stp os os2 (fun x i=>(x=m.datas[j].at_∧(i=3∨i=4∨i=5))∨ ∃k n,shp os x=some ⟨6,n,[],(j+1,k)⟩):=
  (s1.mono fun x i _ _ hx=>hx.imp (fun hx=>⟨hx.1,by omega⟩) id).trans ⟨s2.shp,fun x i s hx hn=>s2.wd x i s hx (fun hx2=>hn (.inl ⟨hx2.1,by omega⟩))⟩
 have hS: ∀x i s,shp os x=some s→((x=m.datas[j].at_∧(i=3∨i=4∨i=5))∨ ∃k n,shp os x=some ⟨6,n,[],(j+1,k)⟩)→s.k=6∨(s.k=1∧3≤i):=fun x i s hx hl=>by
  rcases hl with⟨h1,h2⟩|⟨k,n,h1⟩
  ·rw[h1,D.sh]at hx;injection hx with hx;exact .inr ⟨by rw[←hx],by omega⟩
  ·rw[hx]at h1;injection h1 with h1;exact .inl (by rw[h1])
 obtain⟨nd,hnd⟩: ∃nd:Kn,nd={m.datas[j]with count:=m.datas[j].count+1,arrays:=H2}:=⟨_,rfl⟩
 rw[←hnd]
 have n1:nd.at_=m.datas[j].at_:=by rw[hnd]
 have n2:nd.slot=m.datas[j].slot:=by rw[hnd]
 have n3:nd.text=m.datas[j].text:=by rw[hnd]
 have mp:=fun(α:Type) (f:Kn→α) (hf:f nd=f m.datas[j])=>map_set f m.datas j nd (fun _=>hf)
 have epl: ∀s,pl (m.datas.set j nd) s=pl m.datas s:=fun s=>by
  rw[pl_map,pl_map,mp _ (fun k=>(k.slot,k.at_)) (by rw[n1,n2])]
 have eby: ∀nm,byN (m.datas.set j nd) nm=byN m.datas nm:=fun nm=>by
  rw[byN_map,byN_map,mp _ (fun k=>(k.text,k.at_)) (by rw[n1,n3])]
 rw[c2]
 obtain⟨t1,t2,t3,t4⟩:=hold_rest (m':={H1 with b:=put8 H1.b (m.datas[j].at_+56) ((m.datas[j].count+1:Nat):Int),datas:=m.datas.set j nd}) h c1 c3 epl (fun s=>by
  show lastIn (m.datas.set j nd) s=_
  rw[lastIn_pl,lastIn_pl,epl]) eby st hS
 have eat:(m.datas.set j nd).map Kn.at_=m.datas.map Kn.at_:=mp _ Kn.at_ n1
 have etx:(m.datas.set j nd).map Kn.text=m.datas.map Kn.text:=mp _ Kn.text n3
 refine⟨os2,
  {rep:=r2,td:=t1,tf:=t2,dat:=?_,fld:=t3,asc:=?_,ascF:=?_,ownF:=?_,dtx:=?_,ftx:=?_,none:=?_,mn:=?_,ent:=t4,cov:=?_}⟩
 ·intro i hi
  have hi2:i<(m.datas.set j nd).length:=hi
  have hi3:i<m.datas.length:=by rw[List.length_set]at hi2;exact hi2
  show DatW _ os2 i ((m.datas.set j nd)[i]'hi2) (if i=j then hs j++ [e]else hs i)
  rw[List.getElem_set]
  by_cases hij:i=j
  ·subst hij
   rw[if_pos rfl,if_pos rfl]
   have hk3: ∀a,a≠3→a≠4→a≠5→wd os2 m.datas[i].at_ a=wd os m.datas[i].at_ a:=fun a h3 h4 h5=>st.wd _ _ _ D.sh (by
    rintro(hx|⟨k,n,hx⟩)
    ·omega
    ·rw[D.sh]at hx;injection hx with hx;injection hx with hx;exact absurd hx (by decide))
   exact
    {sh:=by rw[n1,n3];exact st.shp _ _ D.sh
     w0:=by rw[n1,n3,hk3 0 (by decide) (by decide) (by decide),D.w0];exact(sum_C (m:=m) c1 _).symm
     w3:=by rw[n1,w2,if_neg (fun hx=>absurd hx.2 (by decide))];exact w3
     w4:=by rw[n1,w2,if_neg (fun hx=>absurd hx.2 (by decide)),hnd];exact w4
     w5:=by rw[n1,w2,if_pos ⟨rfl,rfl⟩,hnd]
     cnt:=by rw[hnd,List.length_append,List.length_singleton,←D.cnt]
     slot:=by rw[n2,n3,D.slot];exact(dslot_C (m:=m) c1 _).symm
     arr:=by
      rw[hnd]
      exact wa.stp s2 (fun x k2 k n hx hS=>by
       rw[hS.1,hd1]at hx
       injection hx with hx
       injection hx with hx
       exact absurd hx (by decide))}
  ·rw[if_neg (fun h=>hij h.symm),if_neg hij]
   have D2:=h.dat i hi3
   refine D2.stp c1 st (fun a _ _ hx=>?_) (fun x a k n hx hx2=>?_)
   ·rcases hx with⟨hx,_⟩|⟨k,n,hx⟩
    ·have h5:=D2.sh
     rw[hx,D.sh]at h5
     injection h5 with h5
     injection h5 with _ _ _ h5
     injection h5 with _ h5
     exact hij h5.symm
    ·rw[D2.sh]at hx;injection hx with hx;injection hx with hx;exact absurd hx (by decide)
   ·rcases hx2 with⟨hx2,_⟩|⟨k2,n2,hx2⟩
    ·rw[hx2,D.sh]at hx;injection hx with hx;injection hx with hx;exact absurd hx (by decide)
    ·rw[hx]at hx2;injection hx2 with hx2;injection hx2 with _ _ _ hx2;injection hx2 with hx2;omega
 ·show((m.datas.set j nd).map Kn.at_).Pairwise (· < ·)
  rw[eat];exact h.asc
 ·show Asc H1.fields
  rw[c3];exact h.ascF
 ·intro d hd
  have hd2:d∈m.datas.set j nd:=hd
  show ∃f∈H1.fields,_
  rw[c3]
  rcases List.mem_or_eq_of_mem_set hd2 with h1|h1
  ·exact h.ownF d h1
  ·rw[h1,n3];exact h.ownF _ (List.getElem_mem hj)
 ·show((m.datas.set j nd).map Kn.text).Nodup
  rw[etx];exact h.dtx
 ·show(H1.fields.map Kn.text).Nodup
  rw[c3];exact h.ftx
 ·intro i hi
  have hi2:(m.datas.set j nd).length≤i:=hi
  rw[List.length_set]at hi2
  show(if i=j then hs j++ [e]else hs i)=[]
  rw[if_neg (by omega)]
  exact h.none i hi2
 ·show ArrW os2 0 H1.main mi
  rw[c4]
  refine h.mn.stp st (fun x a k n hx hx2=>?_)
  rcases hx2 with⟨hx2,_⟩|⟨k2,n2,hx2⟩
  ·rw[hx2,D.sh]at hx;injection hx with hx;injection hx with hx;exact absurd hx (by decide)
  ·rw[hx]at hx2;injection hx2 with hx2;injection hx2 with _ _ _ hx2;injection hx2 with hx2;omega
 ·intro x s hx
  rw[q2]at hx
  show x=272∨x=288+16*H1.C.ds∨(∃d∈m.datas.set j nd,d.at_=x)∨(∃f∈H1.fields,f.at_=x)∨_
  rw[c1,c3]
  rcases q1 x s hx with h1|h1
  ·rcases h.cov x s h1 with h1|h1|⟨d,hd,h1⟩|h1
   ·exact .inl h1
   ·exact .inr (.inl h1)
   ·refine .inr (.inr (.inl ?_))
    have h5:x∈(m.datas.set j nd).map Kn.at_:=by rw[eat];exact h1▸List.mem_map_of_mem hd
    obtain⟨d2,h6,h7⟩:=List.mem_map.1 h5
    exact⟨d2,h6,h7⟩
   ·exact .inr (.inr (.inr h1))
  ·exact .inr (.inr (.inr (.inr (.inr h1))))
end Zf
end Go.Proofs.YtiddkgcafpaekaaGreat
