/-
  Texts beneath the proof.
-/
import Derived.BigRegion
import Derived.Laws.Bits64
import Derived.Laws.BitsAllLaws
import Derived.Test.YtjecmgkmcfkcjaaGreatQb29
import Derived.Test.YtjecmgkmcfkcjaaGreatQb28
import Derived.Test.YtjecmgkmcfkcjaaGreatQb4
import Derived.Test.YtjecmgkmcfkcjaaGreatQb1
import Derived.Test.YtjecmgkmcfkcjaaGreatQb2
set_option linter.unusedVariables false
set_option linter.unusedSimpArgs false
set_option maxRecDepth 100000
open Go.ChangeShapes Go.WideShapes Go.ChangeAt Go.RowKit
namespace Go.Proofs.YtjecmgkmcfkcjaaGreat
namespace Zj
open Bytes8 Blk8 Ya Ga Ma Mb Mg Na Nb Nc Nh Nl Np Nq Ns Nt Nu Fa Yd Yc Za Zb Zc Zd Ze Zf Zg Pr8 Ps8 Pl8
structure DG (m m':Mk):Prop where
 C:m'.C=m.C
 ic:m'.h.ic=m.h.ic
 I: ∀i,i<16→m'.h.I i=m.h.I i
 len:m.datas.length≤m'.datas.length
 kn: ∀i,i<m.datas.length→(Mk.kn m' i).at_=(Mk.kn m i).at_∧(Mk.kn m' i).text=(Mk.kn m i).text
theorem DG.refl (m:Mk):DG m m:=⟨rfl,rfl,fun _ _=>rfl,Nat.le_refl _,fun _ _=>⟨rfl,rfl⟩⟩
theorem DG.trans {a b c:Mk}(h:DG a b)(k:DG b c):DG a c:=
 ⟨k.C.trans h.C,k.ic.trans h.ic,fun i hi=>(k.I i hi).trans (h.I i hi),Nat.le_trans h.len k.len,fun i hi=>by
   have h1:=k.kn i (Nat.lt_of_lt_of_le hi h.len)
   have h2:=h.kn i hi
   exact⟨h1.1.trans h2.1,h1.2.trans h2.2⟩⟩
theorem dg_same {m m':Mk}(hC:m'.C=m.C)(hc:m'.h.ic=m.h.ic)(hI: ∀i,i<16→m'.h.I i=m.h.I i)(hd:m'.datas=m.datas):DG m m':=
 ⟨hC,hc,hI,by rw[hd];exact Nat.le_refl _,fun i _=>by unfold Mk.kn;rw[hd];exact⟨rfl,rfl⟩⟩
theorem link_keep (m:Mk)(arr:List Nat)(n fr item:Nat):(Mk.link m arr n fr item).1.datas=m.datas∧(Mk.link m arr n fr item).1.C=m.C∧(Mk.link m arr n fr item).1.h.ic=m.h.ic∧(Mk.link m arr n fr item).1.h.I=m.h.I:=by
 unfold Mk.link
 split<;>exact⟨rfl,rfl,rfl,rfl⟩
theorem dg_object (m:Mk)(l:List Int):DG m (m.object l):=dg_same rfl rfl (fun _ _=>rfl) rfl
theorem dg_linked (m:Mk)(x n:Nat):DG m (Mk.linked m x n):=by
 obtain⟨h1,h2,h3,h4⟩:=link_keep m m.main n 176 x
 exact dg_same h2 h3 (fun i _=>congrFun h4 i) h1
theorem mark_form (e:Nat)(m:Mk)(j:Nat): ∃(c:Nat) (arr:List Nat),(Mk.mark e m j).datas=m.datas.set j {Mk.kn m j with count:=c,arrays:=arr}∧(Mk.mark e m j).C=m.C∧(Mk.mark e m j).h.ic=m.h.ic∧(Mk.mark e m j).h.I=m.h.I:=by
 unfold Mk.mark
 dsimp only
 split
 ·exact⟨_,_,rfl,rfl,rfl,rfl⟩
 ·obtain⟨h1,h2,h3,h4⟩:=link_keep m (Mk.kn m j).arrays ((Mk.kn m j).count-1) ((Mk.kn m j).at_+48) e
  exact⟨_,_,by rw[h1],h2,h3,h4⟩
theorem dg_mark (e:Nat)(m:Mk)(j:Nat):DG m (Mk.mark e m j):=by
 obtain⟨c,arr,hd,hC,hc,hI⟩:=mark_form e m j
 refine⟨hC,hc,fun i _=>congrFun hI i,by rw[hd,List.length_set];exact Nat.le_refl _,fun i hi=>?_⟩
 have hg:Mk.kn (Mk.mark e m j) i=if j=i then {Mk.kn m j with count:=c,arrays:=arr}else Mk.kn m i:=by
  show(Mk.mark e m j).datas.getD i _=_
  rw[hd,List.getD_eq_getElem?_getD,List.getElem?_set]
  by_cases h1:j=i
  ·rw[if_pos h1,if_pos h1,if_pos (by omega)];rfl
  ·rw[if_neg h1,if_neg h1];unfold Mk.kn;rw[List.getD_eq_getElem?_getD]
 rw[hg]
 split
 ·next e=>subst e;exact⟨rfl,rfl⟩
 ·exact⟨rfl,rfl⟩
theorem dg_markAll (e:Nat): ∀(who:List Nat) (m:Mk),DG m (Mk.markAll e m who)
 | [],m=>DG.refl m
 |j::r,m=>(dg_mark e m j).trans (dg_markAll e r (Mk.mark e m j))
theorem dg_told (m:Mk)(n:Nat)(seq real mono:Int)(K:Nat→Int)(te:Nat):DG m (Mk.told m n seq real mono K te):=by
 refine dg_same rfl ?_ (fun i hi=>?_) rfl
 ·unfold Mk.told;dsimp only;split<;>rfl
 ·unfold Mk.told;dsimp only
  rw[if_neg (by omega)]
  split<;>rfl
theorem kn_at {m:Mk}{i:Nat}(hi:i<m.datas.length):Mk.kn m i=m.datas[i]:=by
 unfold Mk.kn;rw[List.getD_eq_getElem?_getD,List.getElem?_eq_getElem hi];rfl
theorem fieldOf_keep (m:Mk)(nm:List Int):(Mk.fieldOf m nm).2.h.ic=m.h.ic∧(Mk.fieldOf m nm).2.h.I=m.h.I:=by
 unfold Mk.fieldOf
 split<;>exact⟨rfl,rfl⟩
theorem dataOf_text {m:Mk}(h:Inv m)(nm s:List Int)(hn:AllB nm)(hnl:nm.length≤64)(hs:AllB s)(hsl:s.length≤400):
 (Mk.kn (Mk.dataOf m nm s).2 (Mk.dataOf m nm s).1).text=s∧DG m (Mk.dataOf m nm s).2:=by
 unfold Mk.dataOf
 cases e:idxK m.datas s with
 |some i=>
  refine⟨?_,DG.refl m⟩
  have hi:=idxK_some e
  unfold idxK at e
  obtain⟨h1,h2,_⟩:=List.findIdx?_eq_some_iff_getElem.1 e
  show(Mk.kn m i).text=s
  rw[kn_at hi]
  simpa using h2
 |none=>
  obtain⟨h1,h2,h3,h4,h5,h6,h7,h8⟩:=inv_dataNew h nm s hn hnl hs hsl
  obtain⟨f1,f2⟩:=fieldOf_keep (Mk.put1 m s) nm
  refine⟨?_,h5,f1,fun i _=>congrFun f2 i,?_,fun i hi=>?_⟩
  ·show(Mk.kn (Mk.dataNew m nm s) m.datas.length).text=s
   unfold Mk.kn
   rw[h4,List.getD_eq_getElem?_getD,List.getElem?_append_right (Nat.le_refl _)]
   simp
  ·show m.datas.length≤(Mk.dataNew m nm s).datas.length
   rw[h4,List.length_append];omega
  ·have e1:Mk.kn (Mk.dataNew m nm s) i=Mk.kn m i:=by
    unfold Mk.kn
    rw[h4,List.getD_eq_getElem?_getD,List.getElem?_append_left hi,List.getD_eq_getElem?_getD]
   show(Mk.kn (Mk.dataNew m nm s) i).at_=_∧(Mk.kn (Mk.dataNew m nm s) i).text=_
   rw[e1]
   exact⟨rfl,rfl⟩
theorem insW_perm (f:Nat→Nat)(who:List Nat)(k:Nat):(insW f who k).Perm (k::who):=by
 have h:=List.perm_middle (a:=k) (l₁:=who.take (posW f (f k) who who.length)) (l₂:=who.drop (posW f (f k) who who.length))
 rw[List.take_append_drop]at h
 exact h
theorem posW_spec (f:Nat→Nat)(x:Nat)(who:List Nat): ∀j,(∀i,posW f x who j≤i→i<j→x<f (who.getD i 0))∧(0<posW f x who j→ ¬x<f (who.getD (posW f x who j-1) 0))
 |0=>⟨fun i _ h=>absurd h (Nat.not_lt_zero i),fun h=>absurd h (Nat.lt_irrefl 0)⟩
 |j+1=>by
  obtain⟨h1,h2⟩:=posW_spec f x who j
  unfold posW
  by_cases h:x<f (who.getD j 0)
  ·rw[if_pos h]
   refine⟨fun i hi hj=>?_,h2⟩
   by_cases e:i=j
   ·rw[e];exact h
   ·exact h1 i hi (by omega)
  ·rw[if_neg h]
   exact⟨fun i hi hj=>by omega,fun _=>h⟩
theorem insW_sorted {f:Nat→Nat}{who:List Nat}{k:Nat}(h:who.Pairwise (fun a b=>f a<f b))(hk: ∀x∈who,f x≠f k):(insW f who k).Pairwise (fun a b=>f a<f b):=by
 obtain⟨s1,s2⟩:=posW_spec f (f k) who who.length
 have hp:=posW_le f (f k) who who.length
 unfold insW
 generalize posW f (f k) who who.length=p at*
 have hs:=h
 rw[←List.take_append_drop p who,List.pairwise_append]at hs
 obtain⟨t1,t2,t3⟩:=hs
 rw[List.pairwise_append,List.pairwise_cons]
 have hgd: ∀i (hi:i<who.length),who.getD i 0=who[i]:=fun i hi=>by simp[List.getElem?_eq_getElem hi]
 refine⟨t1,⟨fun b hb=>?_,t2⟩,fun a ha b hb=>?_⟩
 ·obtain⟨i,hi,e⟩:=List.getElem_of_mem hb
  rw[List.length_drop]at hi
  rw[List.getElem_drop]at e
  have:=s1 (p+i) (by omega) (by omega)
  rw[hgd _ (by omega),e]at this
  exact this
 ·rcases List.mem_cons.1 hb with e|hb
  ·subst e
   obtain⟨i,hi,e⟩:=List.getElem_of_mem ha
   rw[List.length_take]at hi
   rw[List.getElem_take]at e
   have h3:=s2 (by omega)
   rw[hgd _ (by omega)]at h3
   have h4:f who[i]≤f (who[p-1]'(by omega)):=by
    by_cases h5:i=p-1
    ·subst h5;exact Nat.le_refl _
    ·exact Nat.le_of_lt (List.pairwise_iff_getElem.1 h i (p-1) (by omega) (by omega) (by omega))
   have h6:=hk a (List.mem_of_mem_take ha)
   rw[e]at h4
   omega
  ·exact t3 a ha b hb
theorem who_all {m:Mk}{os:List O}{hs:Nat→List Nat}{mi:List Nat}{es:List (Nat×List Int)}(h:Hold m os hs mi es)(I:Inv m)(l:List PR)(hl:PrOk l)(hb:m.b.length≤900000)(hnd:(l.map fun q=>pay q.1 q.2).Nodup): ∀k,k≤l.length→
 DG m (Mk.dataAll m (l.take k)).1∧((Mk.dataAll m (l.take k)).2.map fun i=>(Mk.kn (Mk.dataAll m (l.take k)).1 i).text).Perm ((l.take k).map fun q=>pay q.1 q.2)∧(Mk.dataAll m (l.take k)).2.Pairwise (fun a b=>(Mk.kn (Mk.dataAll m (l.take k)).1 a).at_<(Mk.kn (Mk.dataAll m (l.take k)).1 b).at_)
 |0,_=>⟨DG.refl m,List.Perm.refl _,List.Pairwise.nil⟩
 |k+1,hk=>by
  have hkl:k<l.length:=hk
  obtain⟨g,hp,hw⟩:=who_all h I l hl hb hnd k (by omega)
  obtain⟨i1,i2,i3,i4,i5⟩:=inv_dataAll I l hl.all k (by omega)
  obtain⟨o2,H2⟩:=hold_dataAll h I l hl.all hl.nm hl.len (by omega) (k+1) hk
  obtain⟨j1,j2,j3,j4,j5⟩:=inv_dataAll I l hl.all (k+1) hk
  obtain⟨q1,q2,q3,q4⟩:=hl.all l[k] (List.getElem_mem _)
  have hp4:(pay l[k].1 l[k].2).length≤400:=by rw[Nee.pay_len];omega
  obtain⟨dt,dg⟩:=dataOf_text i1 l[k].1 (pay l[k].1 l[k].2) q1 q3 (pay_all q1 q2) hp4
  have d2:=(inv_dataOf i1 l[k].1 (pay l[k].1 l[k].2) q1 q3 (pay_all q1 q2) hp4).2.1
  have hA:=H2.asc
  rw[dataAll_step m l k (by omega)]at hA⊢
  have hS:l.take (k+1)=l.take k++ [l[k]]:=List.take_succ_eq_append_getElem (by omega)
  have hnin:pay l[k].1 l[k].2∉(l.take k).map fun q=>pay q.1 q.2:=fun hm=>by
   have hn2:=hnd.sublist ((List.take_sublist (k+1) l).map fun q=>pay q.1 q.2)
   rw[hS,List.map_append,List.nodup_append]at hn2
   exact hn2.2.2 _ hm _ (List.mem_singleton_self _) rfl
  generalize Mk.dataAll m (l.take k)=s at*
  obtain⟨md,who⟩:=s
  dsimp only at*
  unfold dataStep at hA⊢
  dsimp only at hA⊢
  generalize Mk.dataOf md l[k].1 (pay l[k].1 l[k].2)=r at*
  obtain⟨y,m2⟩:=r
  dsimp only at*
  have e1:who.map (fun i=>(Mk.kn m2 i).text)=who.map (fun i=>(Mk.kn md i).text):=List.map_congr_left fun x hx=>(dg.kn x (i3 x hx)).2
  refine⟨g.trans dg,?_,?_⟩
  ·refine((insW_perm _ who y).map _).trans ?_
   rw[List.map_cons,dt,e1,hS,List.map_append,List.map_singleton]
   exact(List.Perm.cons _ hp).trans (List.perm_append_singleton _ _).symm
  ·refine insW_sorted (hw.imp_of_mem fun {a b} ha hb2 hab=>?_) fun x hx he=>?_
   ·try dsimp only
    rw[(dg.kn a (i3 a ha)).1,(dg.kn b (i3 b hb2)).1]
    exact hab
   ·have hx2:x<m2.datas.length:=Nat.lt_of_lt_of_le (i3 x hx) dg.len
    try dsimp only at he
    have e2:Mk.kn m2 x=Mk.kn m2 y:=by
     rw[kn_at hx2,kn_at d2]at he⊢
     exact hA.inj (List.getElem_mem _) (List.getElem_mem _) he
    refine hnin (hp.mem_iff.1 ?_)
    rw[←e1,←dt,←e2]
    exact List.mem_map.2 ⟨x,hx,rfl⟩
theorem list_nodup {raw:List PR}(h1:listE raw=0):((listL raw).map fun q=>pay q.1 q.2).Nodup:=by
 obtain⟨n16,hok⟩:=list_ok h1
 have hn:(listL raw).Nodup:=by
  unfold listL
  rw[if_pos h1]
  exact(sortP_perm _).nodup_iff.2 (ded_nodup raw)
 rw[List.nodup_iff_pairwise_ne,List.pairwise_map]
 refine(List.nodup_iff_pairwise_ne.1 hn).imp_of_mem fun {a b} ha hb hab he=>hab ?_
 obtain⟨_,a2⟩:=hok a ha
 obtain⟨_,b2⟩:=hok b hb
 obtain⟨_,s2,s3⟩:=split_pay a2
 obtain⟨_,t2,t3⟩:=split_pay b2
 rw[he]at s2 s3
 exact Prod.ext (s2.symm.trans t2) (s3.symm.trans t3)
abbrev RR:=List PR×Int×Int×(Nat→Int)
def EntR (m:Mk)(sq:Int)(r:RR)(body:List Int):Prop:= ∃who:List Nat,(∀x∈who,x<m.datas.length)∧who.Pairwise (fun a b=>(Mk.kn m a).at_<(Mk.kn m b).at_)∧(who.map fun i=>(Mk.kn m i).text).Perm ((listL r.1).map fun q=>pay q.1 q.2)∧
 body=entB sq r.2.1 r.2.2.1 r.2.2.2 ((xr ((listL r.1).map fun q=>pay q.1 q.2):Nat):Int) (prs (fun i=>((Mk.kn m (who.getD i 0)).at_:Int)) (fun i=>Mk.sum m (Mk.kn m (who.getD i 0)).text) who.length)
theorem prs_cong {f g f' g':Nat→Int}{k:Nat}(h: ∀i,i<k→f i=f' i∧g i=g' i):prs f g k=prs f' g' k:=by
 induction k with
 |zero=>rfl
 |succ k ih=>rw[prs_succ,prs_succ,ih (fun i hi=>h i (by omega)),(h k (by omega)).1,(h k (by omega)).2]
theorem getD_lt {who:List Nat}{i:Nat}(hi:i<who.length):who.getD i 0=who[i]:=by simp[List.getElem?_eq_getElem hi]
theorem EntR.dg {m m':Mk}{sq:Int}{r:RR}{body:List Int}(h:EntR m sq r body)(g:DG m m'):EntR m' sq r body:=by
 obtain⟨who,h1,h2,h3,h4⟩:=h
 refine⟨who,fun x hx=>Nat.lt_of_lt_of_le (h1 x hx) g.len,h2.imp_of_mem fun {a b} ha hb hab=>?_,?_,?_⟩
 ·rw[(g.kn a (h1 a ha)).1,(g.kn b (h1 b hb)).1];exact hab
 ·rw[List.map_congr_left fun x hx=>(g.kn x (h1 x hx)).2];exact h3
 ·rw[h4]
  congr 1
  refine prs_cong fun i hi=>?_
  rw[getD_lt hi,(g.kn _ (h1 _ (List.getElem_mem hi))).1,(g.kn _ (h1 _ (List.getElem_mem hi))).2,sum_C g.C]
  exact⟨rfl,rfl⟩
structure RROk (r:RR):Prop where
 list:listE r.1=0
 all:AllP r.1
 real:0≤r.2.1∧r.2.1≤18446744073709551615
 mono:0≤r.2.2.1∧r.2.2.1≤18446744073709551615
 K:IdOk r.2.2.2
structure Recs (m:Mk)(rs:List RR)(es:List (Nat×List Int)):Prop where
 len:es.length=rs.length
 ic:m.h.ic=if m.C.keyed then 4 else 0
 I: ∀i,i<16→m.h.I i=m.C.F i
 base:(rs.length:Int)≤m.h.N 9
 top:m.h.N 9≤18446744073709551615
 ok: ∀r∈rs,RROk r
 ent: ∀i (h:i<rs.length) (h2:i<es.length),EntR m (m.h.N 9-rs.length+i+1) rs[i] es[i].2
theorem kept_recs {m:Mk}{rs:List RR}(h:Nu.Reach m rs): ∃os hs mi es,Kept m rs.length os hs mi es∧Recs m rs es:=by
 induction h with
 |mk h after ha=>
  refine⟨_,_,_,_,⟨hold_mk h after,new_good h after ha,rfl,rfl,rfl,List.Pairwise.nil,(fun x hx=>absurd hx List.not_mem_nil),rfl⟩,⟨rfl,rfl,fun i hi=>?_,?_,?_,(fun x hx=>absurd hx List.not_mem_nil),fun i hi=>absurd hi (Nat.not_lt_zero i)⟩⟩
  ·show hdI3 _ i=_
   unfold hdI3
   rw[if_pos hi]
   rfl
  ·show((0:Nat):Int)≤(hdN _ after).N 9
   rw[show(hdN _ after).N 9=after from setN_same _ _ _]
   exact ha.1
  ·show(hdN _ after).N 9≤_
   rw[show(hdN _ after).N 9=after from setN_same _ _ _]
   exact ha.2
 |step h L hP real mono K hr hm hK h0 ih=>
  rename_i m rs
  obtain⟨os,hs,mi,es,k,q⟩:=ih
  have ga:=after_good k.good hP real mono K hr hm hK
  have h1:listE L=0:=by
   unfold Mk.acode at h0
   by_cases h1:listE L=0
   ·exact h1
   ·rw[if_pos h1]at h0;exact absurd h0 h1
  have h9:m.h.N 9≠18446744073709551615:=fun h9=>by
   unfold Mk.acode at h0
   rw[if_neg (by simpa using h1),if_pos h9]at h0
   cases h0
  have ok:=prOk_list hP h1
  have hml:=k.good.img.len
  have hbl:m.b.length≤900000:=by omega
  obtain⟨wd1,wp1,ws1⟩:=who_all k.hold k.good.img.inv (listL L) ok hbl (list_nodup h1) (listL L).length (Nat.le_refl _)
  obtain⟨i1,i2,i3,i4,i5⟩:=inv_dataAll k.good.img.inv (listL L) ok.all (listL L).length (Nat.le_refl _)
  rw[List.take_length]at wd1 wp1 ws1 i3
  obtain⟨o2,H,h11,hle,hlt⟩:=hold_grown k.hold k.good.img.inv (by rw[k.n8,k.len]) ok k.good.img.len real mono K hK
  have e8:=entered_n8 k.good.img.inv k.good.img.hg (listL L) ok.all ok.len k.good.img.len real mono K hr hm hK h9
  have hA:Mk.after m L real mono K=Mk.entered m (listL L) real mono K:=by unfold Mk.after;rw[if_pos h0]
  rw[hA]at ga⊢
  have hb:(Mk.entered m (listL L) real mono K).b=(Mk.grown m (listL L) real mono K).b:=rfl
  have hbd: ∀x∈mi++ [(Mk.dataAll m (listL L)).1.b.length],304≤x∧x<(Mk.grown m (listL L) real mono K).b.length:=fun x hx=>by
   rcases List.mem_append.1 hx with h2|h2
   ·have:=k.bd x h2;omega
   ·rw[List.mem_singleton]at h2
    have:=k.good.img.inv.len
    omega
  have H2:=hold_told H (m.h.N 8).toNat (m.h.N 9+1) real mono K (Mk.dataAll m (listL L)).1.b.length
  have dgA:DG (Mk.dataAll m (listL L)).1 (Mk.entered m (listL L) real mono K):=
   ((dg_object _ _).trans (dg_linked _ _ _)).trans ((dg_markAll _ _ _).trans (dg_told _ _ _ _ _ _ _))
  have dgM:DG m (Mk.entered m (listL L) real mono K):=wd1.trans dgA
  have hN9:(Mk.entered m (listL L) real mono K).h.N 9=m.h.N 9+1:=by
   show(Mk.told _ _ _ _ _ _ _).h.N 9=_
   rw[told_N _ _ _ _ _ _ _ _ (by decide),if_neg (by decide),if_neg (by decide),if_pos rfl]
  have hqb:=q.base
  have hqt:=q.top
  refine⟨o2,_,_,_,⟨H2,ga,?_,?_,?_,?_,hbd,?_⟩,⟨?_,?_,fun i hi=>?_,?_,?_,?_,?_⟩⟩
  ·rw[e8,k.n8,List.length_append];rfl
  ·rw[List.length_append,List.length_append,k.len];rfl
  ·show(Mk.told _ _ _ _ _ _ _).h.N 11=((Mk.told _ _ _ _ _ _ _).main.headD 0:Nat)
   rw[told_N _ _ _ _ _ _ _ _ (by decide),if_neg (by decide),if_neg (by decide),if_neg (by decide),if_neg (by omega),if_neg (by omega)]
   exact h11
  ·rw[List.pairwise_append]
   refine⟨k.rise,by simp,fun a ha2 b hb2=>?_⟩
   rw[List.mem_singleton]at hb2
   have:=k.bd a ha2
   omega
  ·rw[List.map_append,k.ent];rfl
  ·rw[List.length_append,List.length_append,q.len];rfl
  ·rw[dgM.ic,dgM.C];exact q.ic
  ·rw[dgM.I i hi,dgM.C];exact q.I i hi
  ·rw[hN9,List.length_append,List.length_singleton];push_cast;omega
  ·rw[hN9];omega
  ·intro r hr2
   rcases List.mem_append.1 hr2 with h2|h2
   ·exact q.ok r h2
   ·rw[List.mem_singleton]at h2
    subst h2
    exact⟨h1,hP,hr,hm,hK⟩
  ·intro i hi hi2
   rw[hN9,List.length_append,List.length_singleton]
   by_cases hlast:i<rs.length
   ·rw[List.getElem_append_left hlast,List.getElem_append_left (by have:=q.len;omega)]
    have h3:=(q.ent i hlast (by have:=q.len;omega)).dg dgM
    rw[show m.h.N 9+1-((rs.length+1:Nat):Int)+(i:Int)+1=m.h.N 9-(rs.length:Int)+(i:Int)+1 by push_cast;omega]
    exact h3
   ·have hi3:i=rs.length:=by rw[List.length_append,List.length_singleton]at hi;omega
    subst hi3
    have hl:=q.len
    rw[List.getElem_append_right (Nat.le_refl _),List.getElem_append_right (by omega)]
    have h4:EntR (Mk.dataAll m (listL L)).1 (m.h.N 9+1) (L,real,mono,K) (entB (m.h.N 9+1) real mono K ((xr ((listL L).map fun q=>pay q.1 q.2):Nat):Int) (prs (fun i=>((Mk.kn (Mk.dataAll m (listL L)).1 ((Mk.dataAll m (listL L)).2.getD i 0)).at_:Int)) (fun i=>Mk.sum (Mk.dataAll m (listL L)).1 (Mk.kn (Mk.dataAll m (listL L)).1 ((Mk.dataAll m (listL L)).2.getD i 0)).text) (Mk.dataAll m (listL L)).2.length)):=
     ⟨_,i3,ws1,wp1,rfl⟩
    have h5:=h4.dg dgA
    rw[show m.h.N 9+1-((rs.length+1:Nat):Int)+(rs.length:Int)+1=m.h.N 9+1 by push_cast;omega]
    simpa using h5
end Zj
namespace Zw
end Zw
namespace Zy
open Bytes8 Ga Ma Mb Mg Na Nc Nh Nl Np Nq Nt Nu Fa Zg Zj Pr8 Pl8
def addN (acc:List (List Int))(t:List Int):List (List Int):=if t∈acc then acc else acc++ [t]
abbrev tx (m:Mk):List (List Int):=m.datas.map Kn.text
def paysL (l:List PR):List (List Int):=l.map fun q=>pay q.1 q.2
def allP (rs:List RR):List (List Int):=rs.flatMap fun r=>paysL (listL r.1)
theorem addN_mem (acc:List (List Int))(t x:List Int):x∈addN acc t↔x∈acc∨x=t:=by
 unfold addN
 split
 ·next h=>
  constructor
  ·exact .inl
  ·rintro(h1|rfl)
   ·exact h1
   ·exact h
 ·rw[List.mem_append,List.mem_singleton]
theorem fold_mem: ∀(l acc:List (List Int)) (x:List Int),x∈l.foldl addN acc↔x∈acc∨x∈l
 | [],acc,x=>by simp
 |t::l,acc,x=>by
  show x∈l.foldl addN (addN acc t)↔_
  rw[fold_mem l,addN_mem,List.mem_cons,or_assoc]
theorem idxK_mem (l:List Kn)(s:List Int):(∃i,idxK l s=some i)↔s∈l.map Kn.text:=by
 unfold idxK
 constructor
 ·rintro⟨i,h⟩
  obtain⟨h1,h2,_⟩:=List.findIdx?_eq_some_iff_getElem.1 h
  exact List.mem_map.2 ⟨l[i],List.getElem_mem _,by simpa using h2⟩
 ·intro h
  obtain⟨k,hk,e⟩:=List.mem_map.1 h
  cases hf:l.findIdx? (fun k=>k.text==s)with
  |some i=>exact⟨i,rfl⟩
  |none=>
   rw[List.findIdx?_eq_none_iff]at hf
   have:=hf k hk
   rw[e]at this
   simp at this
def FT (m:Mk)(S:List Int→Prop):Prop:= ∀f∈m.fields,S f.text
theorem tx_dataOf (m:Mk)(nm s:List Int){S:List Int→Prop}(h:FT m S)(hn:S nm):tx (Mk.dataOf m nm s).2=addN (tx m) s∧FT (Mk.dataOf m nm s).2 S:=by
 unfold Mk.dataOf
 cases e:idxK m.datas s with
 |some i=>
  refine⟨?_,h⟩
  unfold addN
  rw[if_pos ((idxK_mem _ _).1 ⟨i,e⟩)]
 |none=>
  have hno: ¬s∈tx m:=fun h1=>by
   obtain⟨i,hi⟩:=(idxK_mem _ _).2 h1
   rw[e]at hi;cases hi
  unfold addN
  rw[if_neg hno]
  unfold Mk.dataNew Mk.put2 Mk.fieldOf
  cases e2:findK (Mk.put1 m s).fields nm with
  |some k=>
   refine⟨?_,h⟩
   show(m.datas++ [_]).map Kn.text=_
   rw[List.map_append]
   rfl
  |none=>
   refine⟨?_,fun f hf=>?_⟩
   ·show(m.datas++ [_]).map Kn.text=_
    rw[List.map_append]
    rfl
   ·have hf2:f∈m.fields++ [(⟨nm,_,_,0,[]⟩:Kn)]:=hf
    rcases List.mem_append.1 hf2 with h1|h1
    ·exact h f h1
    ·rw[List.mem_singleton]at h1
     rw[h1];exact hn
theorem tx_dataAll (m:Mk)(l:List PR){S:List Int→Prop}(h:FT m S)(hn: ∀q∈l,S q.1):tx (Mk.dataAll m l).1=(paysL l).foldl addN (tx m)∧FT (Mk.dataAll m l).1 S:=by
 have: ∀(l:List PR) (s:Mk×List Nat),FT s.1 S→(∀q∈l,S q.1)→tx (l.foldl dataStep s).1=(paysL l).foldl addN (tx s.1)∧FT (l.foldl dataStep s).1 S:=by
  intro l
  induction l with
  |nil=>exact fun s h _=>⟨rfl,h⟩
  |cons q r ih=>
   intro s h hn
   obtain⟨h1,h2⟩:=tx_dataOf s.1 q.1 (pay q.1 q.2) h (hn q (List.mem_cons_self ..))
   obtain⟨h3,h4⟩:=ih (dataStep s q) h2 (fun x hx=>hn x (List.mem_cons_of_mem _ hx))
   refine⟨?_,h4⟩
   show tx (r.foldl dataStep (dataStep s q)).1=(paysL r).foldl addN (addN (tx s.1) (pay q.1 q.2))
   rw[h3]
   exact congrArg (fun z=>(paysL r).foldl addN z) h1
 exact this l (m,[]) h hn
theorem tx_mark (e:Nat)(m:Mk)(j:Nat):tx (Mk.mark e m j)=tx m∧(Mk.mark e m j).fields=m.fields:=by
 obtain⟨c,arr,hd,_⟩:=mark_form e m j
 constructor
 ·show((Mk.mark e m j).datas).map Kn.text=_
  rw[hd]
  refine List.ext_getElem (by simp) fun i h1 h2=>?_
  rw[List.getElem_map,List.getElem_map,List.getElem_set]
  split
  ·next e2=>
   subst e2
   have hj:j<m.datas.length:=by simpa using h2
   show(Mk.kn m j).text=_
   rw[kn_at hj]
  ·rfl
 ·unfold Mk.mark
  dsimp only
  split
  ·rfl
  ·unfold Mk.link
   split<;>rfl
theorem tx_markAll (e:Nat): ∀(who:List Nat) (m:Mk),tx (Mk.markAll e m who)=tx m∧(Mk.markAll e m who).fields=m.fields
 | [],m=>⟨rfl,rfl⟩
 |j::r,m=>by
  obtain⟨h1,h2⟩:=tx_mark e m j
  obtain⟨h3,h4⟩:=tx_markAll e r (Mk.mark e m j)
  exact⟨h3.trans h1,h4.trans h2⟩
theorem tx_linked (m:Mk)(x n:Nat):tx (Mk.linked m x n)=tx m∧(Mk.linked m x n).fields=m.fields:=by
 unfold Mk.linked Mk.link
 dsimp only
 split<;>exact⟨rfl,rfl⟩
theorem flaw_name {n v:List Int}(h:flawI n v=0):nmB n=true:=by
 unfold flawI at h
 by_cases h2:nmB n=true
 ·exact h2
 ·rw[if_neg h2]at h;cases h
theorem tx_reach {m:Mk}{rs:List RR}(h:Nu.Reach m rs):tx m=(allP rs).foldl addN []∧FT m (fun t=> ∃r∈rs,∃q∈listL r.1,t=q.1)∧ ∀r∈rs,listE r.1=0:=by
 induction h with
 |mk h after ha=>exact⟨rfl,(fun f hf=>absurd hf List.not_mem_nil),(fun r hr=>absurd hr List.not_mem_nil)⟩
 |step h L hP real mono K hr hm hK h0 ih=>
  rename_i m rs
  obtain⟨i1,i2,i3⟩:=ih
  have hE:listE L=0:=by
   unfold Mk.acode at h0
   by_cases h1:listE L=0
   ·exact h1
   ·rw[if_pos h1]at h0;exact absurd h0 h1
  unfold Mk.after
  rw[if_pos h0]
  obtain⟨d1,d2⟩:=tx_dataAll m (listL L) (S:=fun t=> ∃r∈rs++ [(L,real,mono,K)],∃q∈listL r.1,t=q.1)
   (fun f hf=>by
     obtain⟨r,hr,q,hq,e⟩:=i2 f hf
     exact⟨r,List.mem_append.2 (.inl hr),q,hq,e⟩)
   (fun q hq=>⟨_,List.mem_append.2 (.inr (List.mem_singleton.2 rfl)),q,hq,rfl⟩)
  unfold Mk.entered Mk.grown
  dsimp only
  obtain⟨a1,a2⟩:=tx_markAll (Mk.dataAll m (listL L)).1.b.length (Mk.dataAll m (listL L)).2 (Mk.linked ((Mk.dataAll m (listL L)).1.object (Mk.eobj (Mk.dataAll m (listL L)).1 (Mk.dataAll m (listL L)).2 ((listL L).map fun q=>pay q.1 q.2) (m.h.N 9+1) real mono K)) (Mk.dataAll m (listL L)).1.b.length (m.h.N 8).toNat)
  obtain⟨b1,b2⟩:=tx_linked ((Mk.dataAll m (listL L)).1.object (Mk.eobj (Mk.dataAll m (listL L)).1 (Mk.dataAll m (listL L)).2 ((listL L).map fun q=>pay q.1 q.2) (m.h.N 9+1) real mono K)) (Mk.dataAll m (listL L)).1.b.length (m.h.N 8).toNat
  refine⟨?_,fun f hf=>?_,fun r hr2=>?_⟩
  ·refine(a1.trans b1).trans (Eq.trans d1 ?_)
   rw[i1]
   unfold allP
   rw[List.flatMap_append,List.foldl_append]
   simp
  ·refine d2 f ?_
   have h1:=a2.trans b2
   have hf2:f∈(Mk.markAll (Mk.dataAll m (listL L)).1.b.length (Mk.linked ((Mk.dataAll m (listL L)).1.object (Mk.eobj (Mk.dataAll m (listL L)).1 (Mk.dataAll m (listL L)).2 ((listL L).map fun q=>pay q.1 q.2) (m.h.N 9+1) real mono K)) (Mk.dataAll m (listL L)).1.b.length (m.h.N 8).toNat) (Mk.dataAll m (listL L)).2).fields:=hf
   rw[h1]at hf2
   exact hf2
  ·rcases List.mem_append.1 hr2 with h1|h1
   ·exact i3 r h1
   ·rw[List.mem_singleton]at h1
    rw[h1];exact hE
theorem tx_full {m:Mk}{rs:List RR}(h:Nu.Reach m rs):(∀d∈m.datas,d.text≠ [])∧ ∀f∈m.fields,f.text≠ []:=by
 obtain⟨h1,h2,h3⟩:=tx_reach h
 constructor
 ·intro d hd e
  have h4:d.text∈tx m:=List.mem_map.2 ⟨d,hd,rfl⟩
  rw[h1,fold_mem]at h4
  rcases h4 with h4|h4
  ·cases h4
  ·obtain⟨r,_,hx⟩:=List.mem_flatMap.1 h4
   obtain⟨q,_,e2⟩:=List.mem_map.1 hx
   rw[e]at e2
   unfold pay at e2
   simp at e2
 ·intro f hf e
  obtain⟨r,hr,q,hq,e2⟩:=h2 f hf
  have h4:=flaw_name ((list_ok (h3 r hr)).2 q hq).2
  rw[←e2,e]at h4
  cases h4
end Zy
namespace Ra
open Bytes8 Blk8 OwnE Ga Gb Ma Mb Na Nt Nu
open Go1 (HTold)
theorem hcells_len (h:HD):(Tryz.prog.info? 78).map (·.size)=some (h.cells 21).length:=by rw[headInfo];simp[HD.len]
theorem whole {w:World}{g:Nat}{T:TypeId}{h:HD}{m:Nat}(hb:Blk w g (h.cells m) T):w.rangeAt g 0 (h.cells m):=fun j v hj=>by rw[Nat.zero_add];exact hb.cell hj
theorem cut_hu (A:Option Addr)(len cap hi:Nat)(h2:hi≤cap)(hh:hi≤1000000)(w:World):
 (Instr.slice 23 (.slice A len cap) none (some (.int .u64 (hi:Int))) none).run Tryz.prog w= .ok (.slice (cutA A cap 0) hi cap) w:=by
 have ht:Tryz.prog.underlying 23=some (.slice (Tryz.prog.elem 23)):=by rw[elem8];exact Tryz.underlying23
 rw[run_slice_h w 23 A len cap ht .u64 hi (by omega) (by omega),elem8,sizeof8]
 unfold sliced cutA
 by_cases hc:cap=0
 ·simp[hc]
 ·simp[hc]
def viewC (h:HD)(b:Value):List Value:=h.cells 21++ [b]
theorem view_built (h:HD)(b:Value)(A:Option Addr)(n c:Nat)(e:b= .slice A n c):Tryz.prog.built 123 [(0,.agg (h.cells 21).toArray),(1,b)]=some (viewC h b).toArray:=by subst e;kernel_rfl
def bldV (parts:Array (Nat×Value)):Sem Value:=Instr.build 123 parts
theorem bldV_fold (parts:Array (Nat×Value)):Instr.build 123 parts=bldV parts:=rfl
theorem build_view (h:HD)(A:Option Addr)(n c:Nat)(w:World):(bldV #[(0,.agg (h.cells 21).toArray),(1,.slice A n c)]).run Tryz.prog w= .ok (.agg (viewC h (.slice A n c)).toArray) w:=by
 unfold bldV
 exact run_build w _ _ _ (view_built h _ A n c rfl)
attribute [local irreducible] HD.cells wpList Code.wp
attribute [local go_sem ↓] bldV_fold
end Ra
namespace Lk
open Ga Gb
attribute [local irreducible] HD.cells wpList Code.wp
end Lk
namespace Vg
def natOf:Value→Nat
 | .int _ z=>z.toNat
 |_=>0
attribute [local irreducible] wpList Code.wp
end Vg
end Go.Proofs.YtjecmgkmcfkcjaaGreat
