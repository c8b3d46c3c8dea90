/-
  Texts beneath the proof.
-/
import Derived.Test.YtjecmgkmcfkcjaaGreatQhLinkDatab4
set_option linter.unusedVariables false
set_option linter.unusedSimpArgs false
set_option maxRecDepth 100000
open Go.ChangeShapes Go.WideShapes Go.ChangeAt Go.RowKit
namespace Go.Proofs.YtjecmgkmcfkcjaaGreat
namespace Hs
open Bytes8 Ya Ga Ma Mb Mg Na Nb Nc Nh Nl Np Ns Nt Nu Fa Yd Yc Za Zb Zc Zd Ze Zg Zj Pr8 Pl8
abbrev paysOf (r:RR):List (List Int):=(listL r.1).map fun q=>pay q.1 q.2
def hasB (r:RR)(t:List Int):Bool:=decide (t∈paysOf r)
def pick (Z:List (RR×Nat))(t:List Int):List Nat:=(Z.filter fun p=>hasB p.1 t).map Prod.snd
theorem pick_app (Z Y:List (RR×Nat))(t:List Int):pick (Z++Y) t=pick Z t++pick Y t:=by
 unfold pick
 rw[List.filter_append,List.map_append]
theorem pick_one (r:RR)(x:Nat)(t:List Int):pick [(r,x)] t=if t∈paysOf r then [x]else []:=by
 unfold pick hasB
 by_cases h:t∈paysOf r
 ·rw[if_pos h];simp[h]
 ·rw[if_neg h];simp[h]
theorem pick_none {Z:List (RR×Nat)}{t:List Int}(h: ∀p∈Z,t∉paysOf p.1):pick Z t=[]:=by
 unfold pick
 rw[List.map_eq_nil_iff,List.filter_eq_nil_iff]
 intro p hp
 unfold hasB
 simp[h p hp]
theorem markAll_dlen (e:Nat): ∀(who:List Nat) (m:Mk),(Mk.markAll e m who).datas.length=m.datas.length
 | [],m=>rfl
 |j::r,m=>by
  obtain⟨c,arr,hd,_⟩:=mark_form e m j
  have h:=markAll_dlen e r (Mk.mark e m j)
  rw[hd,List.length_set]at h
  exact h
theorem hsAll_is (e:Nat)(i:Nat): ∀(who:List Nat) (hs:Nat→List Nat),who.Nodup→hsAll e hs who i=if i∈who then hs i++ [e]else hs i
 | [],hs,_=>rfl
 |j::r,hs,hn=>by
  rw[List.nodup_cons]at hn
  have h:=hsAll_is e i r (fun x=>if x=j then hs j++ [e]else hs x) hn.2
  show hsAll e (fun x=>if x=j then hs j++ [e]else hs x) r i=_
  rw[h]
  by_cases h1:i=j
  ·subst h1
   rw[if_neg hn.1,if_pos (List.mem_cons_self ..),if_pos rfl]
  ·rw[if_neg h1]
   by_cases h2:i∈r
   ·rw[if_pos h2,if_pos (List.mem_cons_of_mem _ h2)]
   ·rw[if_neg h2,if_neg (fun h3=>(List.mem_cons.1 h3).elim h1 h2)]
theorem kn_get {m:Mk}{i:Nat}(hi:i<m.datas.length):Mk.kn m i=m.datas[i]:=kn_at hi
theorem pick_step {m md m':Mk}{rs:List RR}{os:List O}{hs:Nat→List Nat}{mi:List Nat}{es:List (Nat×List Int)}(k:Kept m rs.length os hs mi es)(q:Recs m rs es)(hpk: ∀i (hi:i<m.datas.length),hs i=pick (rs.zip mi) m.datas[i].text)
 {who:List Nat}{L:List PR}(g1:DG m md)(g2:DG md m')(hdl:m'.datas.length=md.datas.length)(hw: ∀x∈who,x<md.datas.length)(hr:who.Pairwise (fun a b=>(Mk.kn md a).at_<(Mk.kn md b).at_))(hp:(who.map fun i=>(Mk.kn md i).text).Perm (L.map fun q=>pay q.1 q.2))(hdt:(m'.datas.map Kn.text).Nodup)(e:Nat)(r:RR)(hL:listL r.1=L):
 ∀i (hi:i<m'.datas.length),hsAll e hs who i=pick ((rs++ [r]).zip (mi++ [e])) m'.datas[i].text:=fun i hi=>by
 have hnd:who.Nodup:=by
  rw[List.nodup_iff_pairwise_ne]
  exact hr.imp fun {a b} hab e=>by rw[e]at hab;exact Nat.lt_irrefl _ hab
 have hinj: ∀x y (hx:x<m'.datas.length) (hy:y<m'.datas.length),m'.datas[x].text=m'.datas[y].text→x=y:=fun x y hx hy he=>by
  refine(List.getElem_inj (xs:=m'.datas.map Kn.text) (h₀:=by rw[List.length_map];exact hx) (h₁:=by rw[List.length_map];exact hy) hdt).1 ?_
  rw[List.getElem_map,List.getElem_map]
  exact he
 have htx: ∀x (hx:x<md.datas.length),(Mk.kn md x).text=(m'.datas[x]'(by omega)).text:=fun x hx=>by
  rw[←kn_get (show x<m'.datas.length by omega)]
  exact(g2.kn x hx).2.symm
 rw[List.zip_append k.len.symm,pick_app]
 show _=_++pick [(r,e)] _
 rw[pick_one,hsAll_is e i who hs hnd]
 have hmem:i∈who↔m'.datas[i].text∈paysOf r:=by
  show _↔_∈(listL r.1).map _
  rw[hL]
  constructor
  ·intro h
   rw[←htx i (hw i h)]
   exact hp.mem_iff.1 (List.mem_map.2 ⟨i,h,rfl⟩)
  ·intro h
   obtain⟨x,hx,he⟩:=List.mem_map.1 (hp.mem_iff.2 h)
   rw[htx x (hw x hx)]at he
   have:=hinj x i (by have:=hw x hx;omega) hi he
   rwa[←this]
 have hold:hs i=pick (rs.zip mi) m'.datas[i].text:=by
  by_cases h:i<m.datas.length
  ·rw[hpk i h]
   have h1:=(g1.kn i h).2
   rw[kn_get h,htx i (by have:=g1.len;omega)]at h1
   rw[←h1]
  ·rw[k.hold.none i (by omega)]
   refine(pick_none fun p hp2 ht=>?_).symm
   have hp3:=List.of_mem_zip hp2
   obtain⟨j,hj,hje⟩:=List.getElem_of_mem hp3.1
   obtain⟨who2,w1,w2,w3,w4⟩:=q.ent j hj (by rw[q.len];exact hj)
   rw[hje]at w3
   obtain⟨x,hx,he⟩:=List.mem_map.1 (w3.mem_iff.2 ht)
   have hx2:=w1 x hx
   rw[←(g1.kn x hx2).2,htx x (by have:=g1.len;omega)]at he
   have:=hinj x i (by have:=g1.len;omega) hi he
   omega
 rw[hold]
 by_cases h:i∈who
 ·rw[if_pos h,if_pos (hmem.1 h)]
 ·rw[if_neg h,if_neg (fun h2=>h (hmem.2 h2)),List.append_nil]
theorem hs_reach {m:Mk}{rs:List RR}(h:Nu.Reach m rs): ∃os hs mi es,Kept m rs.length os hs mi es∧Recs m rs es∧ ∀i (hi:i<m.datas.length),hs i=pick (rs.zip mi) m.datas[i].text:=by
 induction h with
 |mk h after ha=>
  refine⟨_,_,_,_,⟨hold_mk h after,new_good h after ha,rfl,rfl,rfl,List.Pairwise.nil,(fun x hx=>absurd hx List.not_mem_nil),rfl⟩,⟨rfl,rfl,fun i hi=>?_,?_,?_,(fun x hx=>absurd hx List.not_mem_nil),fun i hi=>absurd hi (Nat.not_lt_zero i)⟩,fun i hi=>absurd hi (Nat.not_lt_zero i)⟩
  ·show hdI3 _ i=_
   unfold hdI3
   rw[if_pos hi]
   rfl
  ·show((0:Nat):Int)≤(hdN _ after).N 9
   rw[show(hdN _ after).N 9=after from setN_same _ _ _]
   exact ha.1
  ·show(hdN _ after).N 9≤_
   rw[show(hdN _ after).N 9=after from setN_same _ _ _]
   exact ha.2
 |step h L hP real mono K hr hm hK h0 ih=>
  rename_i m rs
  obtain⟨os,hs,mi,es,k,q,hpk⟩:=ih
  have ga:=after_good k.good hP real mono K hr hm hK
  have h1:listE L=0:=by
   unfold Mk.acode at h0
   by_cases h1:listE L=0
   ·exact h1
   ·rw[if_pos h1]at h0;exact absurd h0 h1
  have h9:m.h.N 9≠18446744073709551615:=fun h9=>by
   unfold Mk.acode at h0
   rw[if_neg (by simpa using h1),if_pos h9]at h0
   cases h0
  have ok:=prOk_list hP h1
  have hml:=k.good.img.len
  have hbl:m.b.length≤900000:=by omega
  obtain⟨wd1,wp1,ws1⟩:=who_all k.hold k.good.img.inv (listL L) ok hbl (list_nodup h1) (listL L).length (Nat.le_refl _)
  obtain⟨i1,i2,i3,i4,i5⟩:=inv_dataAll k.good.img.inv (listL L) ok.all (listL L).length (Nat.le_refl _)
  rw[List.take_length]at wd1 wp1 ws1 i3
  obtain⟨o2,H,h11,hle,hlt⟩:=hold_grown k.hold k.good.img.inv (by rw[k.n8,k.len]) ok k.good.img.len real mono K hK
  have e8:=entered_n8 k.good.img.inv k.good.img.hg (listL L) ok.all ok.len k.good.img.len real mono K hr hm hK h9
  have hA:Mk.after m L real mono K=Mk.entered m (listL L) real mono K:=by unfold Mk.after;rw[if_pos h0]
  rw[hA]at ga⊢
  have hb:(Mk.entered m (listL L) real mono K).b=(Mk.grown m (listL L) real mono K).b:=rfl
  have hbd: ∀x∈mi++ [(Mk.dataAll m (listL L)).1.b.length],304≤x∧x<(Mk.grown m (listL L) real mono K).b.length:=fun x hx=>by
   rcases List.mem_append.1 hx with h2|h2
   ·have:=k.bd x h2;omega
   ·rw[List.mem_singleton]at h2
    have:=k.good.img.inv.len
    omega
  have H2:=hold_told H (m.h.N 8).toNat (m.h.N 9+1) real mono K (Mk.dataAll m (listL L)).1.b.length
  have dgA:DG (Mk.dataAll m (listL L)).1 (Mk.entered m (listL L) real mono K):=
   ((dg_object _ _).trans (dg_linked _ _ _)).trans ((dg_markAll _ _ _).trans (dg_told _ _ _ _ _ _ _))
  have dgM:DG m (Mk.entered m (listL L) real mono K):=wd1.trans dgA
  have hN9:(Mk.entered m (listL L) real mono K).h.N 9=m.h.N 9+1:=by
   show(Mk.told _ _ _ _ _ _ _).h.N 9=_
   rw[told_N _ _ _ _ _ _ _ _ (by decide),if_neg (by decide),if_neg (by decide),if_pos rfl]
  have hqb:=q.base
  have hqt:=q.top
  have hdl:(Mk.entered m (listL L) real mono K).datas.length=(Mk.dataAll m (listL L)).1.datas.length:=by
   show(Mk.markAll _ (Mk.linked _ _ _) _).datas.length=_
   rw[markAll_dlen]
   show(Mk.link _ _ _ _ _).1.datas.length=_
   rw[(link_keep _ _ _ _ _).1]
   rfl
  have hpick:=pick_step k q hpk wd1 dgA hdl i3 ws1 wp1 H2.dtx (Mk.dataAll m (listL L)).1.b.length (L,real,mono,K) rfl
  refine⟨o2,_,_,_,⟨H2,ga,?_,?_,?_,?_,hbd,?_⟩,⟨?_,?_,fun i hi=>?_,?_,?_,?_,?_⟩,hpick⟩
  ·rw[e8,k.n8,List.length_append];rfl
  ·rw[List.length_append,List.length_append,k.len];rfl
  ·show(Mk.told _ _ _ _ _ _ _).h.N 11=((Mk.told _ _ _ _ _ _ _).main.headD 0:Nat)
   rw[told_N _ _ _ _ _ _ _ _ (by decide),if_neg (by decide),if_neg (by decide),if_neg (by decide),if_neg (by omega),if_neg (by omega)]
   exact h11
  ·rw[List.pairwise_append]
   refine⟨k.rise,by simp,fun a ha2 b hb2=>?_⟩
   rw[List.mem_singleton]at hb2
   have:=k.bd a ha2
   omega
  ·rw[List.map_append,k.ent];rfl
  ·rw[List.length_append,List.length_append,q.len];rfl
  ·rw[dgM.ic,dgM.C];exact q.ic
  ·rw[dgM.I i hi,dgM.C];exact q.I i hi
  ·rw[hN9,List.length_append,List.length_singleton];push_cast;omega
  ·rw[hN9];omega
  ·intro r hr2
   rcases List.mem_append.1 hr2 with h2|h2
   ·exact q.ok r h2
   ·rw[List.mem_singleton]at h2
    subst h2
    exact⟨h1,hP,hr,hm,hK⟩
  ·intro i hi hi2
   rw[hN9,List.length_append,List.length_singleton]
   by_cases hlast:i<rs.length
   ·rw[List.getElem_append_left hlast,List.getElem_append_left (by have:=q.len;omega)]
    have h3:=(q.ent i hlast (by have:=q.len;omega)).dg dgM
    rw[show m.h.N 9+1-((rs.length+1:Nat):Int)+(i:Int)+1=m.h.N 9-(rs.length:Int)+(i:Int)+1 by push_cast;omega]
    exact h3
   ·have hi3:i=rs.length:=by rw[List.length_append,List.length_singleton]at hi;omega
    subst hi3
    have hl:=q.len
    rw[List.getElem_append_right (Nat.le_refl _),List.getElem_append_right (by omega)]
    have h4:EntR (Mk.dataAll m (listL L)).1 (m.h.N 9+1) (L,real,mono,K) (entB (m.h.N 9+1) real mono K ((xr ((listL L).map fun q=>pay q.1 q.2):Nat):Int) (prs (fun i=>((Mk.kn (Mk.dataAll m (listL L)).1 ((Mk.dataAll m (listL L)).2.getD i 0)).at_:Int)) (fun i=>Mk.sum (Mk.dataAll m (listL L)).1 (Mk.kn (Mk.dataAll m (listL L)).1 ((Mk.dataAll m (listL L)).2.getD i 0)).text) (Mk.dataAll m (listL L)).2.length)):=
     ⟨_,i3,ws1,wp1,rfl⟩
    have h5:=h4.dg dgA
    rw[show m.h.N 9+1-((rs.length+1:Nat):Int)+(rs.length:Int)+1=m.h.N 9+1 by push_cast;omega]
    simpa using h5
end Hs
namespace Zt
end Zt
namespace Zu
open Bytes8 Ob Ga Ma Mb Na Nc Nt Za Zb Zc Zd Zg Zj Zl
def bnd (os:List O)(k:Nat):Prop:=k=endO os∨ ∃o,obj 272 os k=some o
theorem obj_next: ∀(os:List O) (s a:Nat) (o:O),obj s os a=some o→a+o.n=s+(enc os).length∨ ∃o2,obj s os (a+o.n)=some o2
 | [],s,a,o,h=>by cases h
 |x::os,s,a,o,h=>by
  have hx:x.enc.length=x.n:=rfl
  have h8:=x.n8
  unfold obj at h
  by_cases e:a=s
  ·rw[if_pos e]at h
   injection h with h
   subst h
   subst e
   cases os with
   |nil=>exact .inl (by rw[enc_cons,List.length_append];simp[enc];omega)
   |cons y t=>
    refine .inr ⟨y,?_⟩
    unfold obj
    rw[if_neg (by omega)]
    unfold obj
    rw[if_pos rfl]
  ·rw[if_neg e]at h
   have hb:=obj_bd os (s+x.n) a o h
   have h8o:=o.n8
   rcases obj_next os (s+x.n) a o h with h1|⟨o2,h1⟩
   ·exact .inl (by rw[enc_cons,List.length_append];omega)
   ·refine .inr ⟨o2,?_⟩
    unfold obj
    rw[if_neg (by omega)]
    exact h1
theorem bnd_first (os:List O):bnd os 272:=by
 cases os with
 |nil=>exact .inl rfl
 |cons x t=>exact .inr ⟨x,by unfold obj;rw[if_pos rfl]⟩
theorem bnd_next {os:List O}{a:Nat}{o:O}(h:obj 272 os a=some o):bnd os (a+o.n):=obj_next os 272 a o h
theorem bnd_at {os:List O}{k:Nat}(h:bnd os k)(hk:k<endO os): ∃o,obj 272 os k=some o:=by
 rcases h with h|h
 ·omega
 ·exact h
variable {m : Mk} {n0 : Nat} {os : List O} {hs : Nat → List Nat} {mi : List Nat} {es : List (Nat × List Int)}
theorem st_read (k:Kept m n0 os hs mi es){st:Int}{a:Nat}{o:O}(ho:obj 272 os a=some o):
 code (stL m st) a=0∧kindL (stL m st) a=o.k∧1≤o.k∧o.k≤7∧ ∃z:Nat,sizeL (stL m st) a=(z:Int)∧16≤z∧(z+7)/8*8=o.n∧a+o.n≤m.b.length∧272≤a:=by
 have hl:stL m st=(stH m st).bytes 21++enc os:=by unfold stL;rw[k.hold.rep.rep.eq]
 have ok:=k.hold.rep.ok o (obj_mem _ _ _ _ ho)
 obtain⟨c1,c2,c3,c4⟩:=read_at hl (by rw[HD.bytes_len]) ho ok
 have hb:=obj_bd _ _ _ _ ho
 have hsz:=k.hold.rep.size
 unfold endO at hsz
 have hn:=o.n_is
 have hbl:=o.body_len
 refine⟨c1,c2,ok.k.1,ok.k.2,16+o.body.length,c3,by omega,?_,by omega,hb.1⟩
 rw[hn,←hbl]
 have hp:padN o.body.length=(8-o.body.length%8)%8:=by first|rfl|(unfold padN;omega)
 omega
theorem kept_end (k:Kept m n0 os hs mi es):endO os=m.b.length:=k.hold.rep.size.symm
end Zu
namespace Ht
open Bytes8 Ob Ga Gj Ma Mb Na Nc Nt Za Zb Zc Zd Zg Zh Zj Zk Zl Zx Yp Va Wa Wc Hs Rr Rk Rm
open Rd (dcode)
open Rg (arcode)
variable {h : HD} {l hd : List Int} {os : List O} {t : Nat} {arr its : List Nat}
theorem inA_pre (w:ArrW os t arr its){F P:List Nat}(hF:F=P++its)(hasc:F.Pairwise (· < ·)){E:Nat}(hpos: ∀x∈F,0<x∧x<E)(K:List Int→List Int×Int)(g:Nat→Int)(k:Nat)(hk:k<arr.length)
 (hg: ∀j,j<roomN k→g j=wd os arr[k] (1+j))(hK:rooms (k+1)≤its.length→K (toI (F.take (P.length+rooms (k+1))))=(toI F,0))(hKf: ∀o:List Int,(o.length:Int)=(F.length:Int)→K o=(o,0)):
 ∀(q j:Nat),q+j=roomN k→rooms k+j≤its.length→inA K E (F.length:Int) 0 g q j (toI (F.take (P.length+(rooms k+j))))=(toI F,0):=by
 have hrs:=rooms_succ k
 have hFl:F.length=P.length+its.length:=by rw[hF,List.length_append]
 intro q
 induction q with
 |zero=>
  intro j hj h1
  have e:rooms k+j=rooms (k+1):=by omega
  show K _=_
  rw[e]at h1⊢
  exact hK h1
 |succ q ih=>
  intro j hj h1
  by_cases hn:P.length+(rooms k+j)=F.length
  ·rw[inA_full _ _ _ _ _ _ _ _ (by rw[toI_len _ _ (by omega),hn]) (hKf _ (by rw[toI_len _ _ (by omega),hn])),hn,List.take_length]
  ·have hl2:rooms k+j<its.length:=by omega
   have hl3:P.length+(rooms k+j)<F.length:=by omega
   have e1:its.getD (rooms k+j) 0=F[P.length+(rooms k+j)]:=by
    rw[List.getD_eq_getElem?_getD,List.getElem?_eq_getElem hl2]
    subst hF
    rw[List.getElem_append_right (by omega)]
    simp
   obtain⟨p1,p2⟩:=hpos F[P.length+(rooms k+j)] (List.getElem_mem _)
   have hlt:=lastI_take hasc (fun x hx=>(hpos x hx).1) (P.length+(rooms k+j)) hl3
   unfold inA
   rw[if_neg (by rw[toI_len _ _ (by omega)];omega),hg j (by omega),w.it k hk j (by omega),e1,if_neg (by simp[nothB];omega),if_neg (by omega),toI_step F _ hl3]
   exact ih (j+1) (by omega) (by omega)
theorem chase_pre (hl:l=hd++enc os)(hh:hd.length=272)(hok: ∀o∈os,o.Ok)(h0:h.N 0=272)(w:ArrW os t arr its){F P:List Nat}(hF:F=P++its)(hasc:F.Pairwise (· < ·))(hpos: ∀x∈F,0<x∧x<l.length):
 ∀(f k last:Nat),k≤arr.length→rooms k≤its.length→(k=0→last=0)→(∀hk:0<k,last=arr.getD (k-1) 0)→last≤l.length→l.length+1≤f+last→
  chase h l l.length (F.length:Int) 0 0 f (toI (F.take (P.length+rooms k))) (arr.getD k 0) last=(toI F,0):=by
 have hFl:F.length=P.length+its.length:=by rw[hF,List.length_append]
 intro f
 induction f with
 |zero=>intro k last _ _ _ _ h1 h2;omega
 |succ f ih=>
  intro k last hk hr hl0 hlk hle hf
  by_cases hfull:P.length+rooms k=F.length
  ·rw[chase_full _ _ _ _ _ _ _ _ _ _ (by rw[toI_len _ _ (by omega),hfull]),hfull,List.take_length]
  ·unfold chase
   rw[if_neg (by rw[toI_len _ _ (by omega)];omega)]
   have hke:k≠arr.length:=fun e=>by
    have:=w.le
    subst e
    omega
   have hklt:k<arr.length:=by omega
   have e1:arr.getD k 0=arr[k]:=by simp[List.getElem?_eq_getElem hklt]
   have hsz:l.length=endO os:=by rw[hl,List.length_append,hh];rfl
   have hb:=shp_lt (w.sh k hklt)
   dsimp only at hb
   have hrb:=roomN_bd k
   have hlast:last<arr[k]:=by
    rcases Nat.eq_zero_or_pos k with h1|h1
    ·rw[hl0 h1];omega
    ·have h2:=List.pairwise_iff_getElem.1 w.asc (k-1) k (by omega) hklt (by omega)
     have h3:=hlk h1
     have e2:arr.getD (k-1) 0=arr[k-1]:=by simp[List.getElem?_eq_getElem (show k-1<arr.length by omega)]
     omega
   obtain⟨r1,r2,r3,r4⟩:=read_arr hl hh hok (w.sh k hklt) (by omega)
   have hrng:h.N 0≤(arr[k]:Int)∧arr[k]<l.length:=by rw[h0];omega
   have ha:arcode h l l.length arr[k]=0:=by unfold arcode;rw[if_pos hrng];exact r1
   have hx:(aX9 h l l.length arr[k]).toNat=arr.getD (k+1) 0:=by
    unfold aX9
    rw[if_pos hrng,r2,w.nx k hklt,Int.toNat_natCast]
   have hc:aC9 h l l.length arr[k]=roomN k:=by unfold aC9;rw[if_pos hrng];exact r3
   rw[e1,if_neg (by simp[nothB];omega),if_neg (by omega),if_neg (by rw[ha];decide),hx,hc]
   have q:=inA_pre w hF hasc hpos (fun o=>chase h l l.length (F.length:Int) 0 0 f o (arr.getD (k+1) 0) arr[k]) (arF (bodyL l arr[k])) k hklt r4 (fun q1=>ih (k+1) arr[k] (by omega) q1 (fun h=>absurd h (by omega)) (fun _=>by rw[Nat.add_sub_cancel];exact e1.symm) (by omega) (by omega)) (fun o ho=>chase_full _ _ _ _ _ _ _ _ _ _ ho) (roomN k) 0 (by omega) (by omega)
   exact q
variable {m : Mk} {n0 : Nat} {hs : Nat → List Nat} {mi : List Nat} {es : List (Nat × List Int)}
theorem zip_snd {α β:Type}: ∀(a:List α) (b:List β),((a.zip b).map Prod.snd).Sublist b
 | [],b=>by simp
 |_::_,[]=>List.Sublist.refl _
 |x::a,y::b=>by
  rw[List.zip_cons_cons,List.map_cons]
  exact(zip_snd a b).cons_cons y
theorem pick_sub (rs:List RR)(mi:List Nat)(t:List Int):(pick (rs.zip mi) t).Sublist mi:=by
 unfold pick
 refine(List.filter_sublist.map Prod.snd).trans ?_
 have h:((rs.zip mi).map Prod.snd).Sublist mi:=by
  exact zip_snd rs mi
 exact h
theorem st_of {rs:List RR}(k:Kept m n0 os hs mi es)(htx: ∀d∈m.datas,d.text≠ [])(hpk: ∀i (hi:i<m.datas.length),hs i=pick (rs.zip mi) m.datas[i].text){st:Int}(ht:0≤st∧st≤2)(i:Nat)(hi:i<m.datas.length):
 ofR (hdOf (stL m st)) (stL m st) m.b.length m.datas[i].at_=(toI (pick (rs.zip mi) m.datas[i].text),0):=by
 obtain⟨d1,d2,d3,d4,d5⟩:=st_dat k htx ht i hi
 have D:=k.hold.dat i hi
 have hI:=k.good.img
 have hsub:=pick_sub rs mi m.datas[i].text
 rw[hpk i hi]at D
 unfold ofR
 rw[if_neg (by rw[d1];decide),d2 5 (by decide),d2 3 (by decide),d2 4 (by decide),D.w5,D.w3,D.w4,D.cnt]
 generalize pick (rs.zip mi) m.datas[i].text=F at*
 cases F with
 |nil=>rw[if_pos (.inl rfl)];rfl
 |cons x tl=>
  have hx:x∈mi:=hsub.subset (List.mem_cons_self ..)
  have hb:=k.bd x hx
  rw[if_neg (by
   rintro(h1|h1)
   ·simp at h1;omega
   ·simp[nothB]at h1;omega)]
  have hl:stL m st=(stH m st).bytes 21++enc os:=by unfold stL;rw[k.hold.rep.rep.eq]
  have hh:((stH m st).bytes 21).length=272:=by rw[HD.bytes_len]
  have e0:=(st_N hI ht 0 (by decide) (by decide)).trans hI.hg.n0
  have hL:=st_len hI st
  have q:=chase_pre (h:=hdOf (stL m st)) hl hh k.hold.rep.ok e0 D.arr (F:=x::tl) (P:=[x]) rfl (k.rise.sublist hsub) (fun y hy=>by have:=k.bd y (hsub.subset hy);rw[hL];omega) (m.b.length+1) 0 0 (Nat.zero_le _) (Nat.zero_le _) (fun _=>rfl) (fun h=>absurd h (by decide)) (Nat.zero_le _) (by rw[hL];omega)
  rw[hL]at q
  have e:m.datas[i].arrays.getD 0 0=m.datas[i].arrays.headD 0:=by cases m.datas[i].arrays<;>rfl
  rw[e]at q
  rw[Int.toNat_natCast]
  exact q
theorem data_obj {a:Nat}{o:O}(k:Kept m n0 os hs mi es)(ho:obj 272 os a=some o)(hk:o.k=1): ∃i,∃hi:i<m.datas.length,m.datas[i].at_=a:=by
 rcases k.hold.cov a (Zb.O.sh o) (by unfold shp;rw[ho];rfl)with h1|h1|⟨d,h1,h2⟩|⟨f,h1,h2⟩|⟨e,h1,h2⟩|h1
 ·exfalso
  obtain⟨g,hg⟩:=k.hold.td.sh
  obtain⟨p,hp,hsh⟩:=shp_some hg
  rw[h1,hp]at ho
  injection ho with ho
  injection hsh with h2
  rw[ho]at h2;omega
 ·exfalso
  obtain⟨g,hg⟩:=k.hold.tf.sh
  obtain⟨p,hp,hsh⟩:=shp_some hg
  rw[h1,hp]at ho
  injection ho with ho
  injection hsh with h2
  rw[ho]at h2;omega
 ·obtain⟨i,hi,rfl⟩:=List.getElem_of_mem h1
  exact⟨i,hi,h2⟩
 ·exfalso
  obtain⟨i,hi,rfl⟩:=List.getElem_of_mem h1
  obtain⟨p,hp,hsh⟩:=shp_some (k.hold.fld i hi).sh
  rw[h2,ho]at hp
  injection hp with hp
  injection hsh with h2
  rw[←hp]at h2;omega
 ·exfalso
  obtain⟨i,hi,rfl⟩:=List.getElem_of_mem h1
  obtain⟨p,hp,hsh⟩:=shp_some (k.hold.ent i hi)
  rw[h2,ho]at hp
  injection hp with hp
  injection hsh with h2
  rw[←hp]at h2;omega
 ·exfalso
  have:o.k=6:=h1
  omega
theorem st_pay {rs:List RR}(k:Kept m rs.length os hs mi es)(q:Recs m rs es)(htx: ∀d∈m.datas,d.text≠ []){st:Int}(ht:0≤st∧st≤2)(i:Nat)(hi:i<m.datas.length):
 hcode9 (hdOf (stL m st)) (stL m st) m.b.length m.datas[i].at_=0∧payT (hdOf (stL m st)) (stL m st) m.b.length m.datas[i].at_=m.datas[i].text:=by
 have hI:=k.good.img
 have s:=st_says hI ht
 have hL:=st_len hI st
 have e0:=(st_N hI ht 0 (by decide) (by decide)).trans hI.hg.n0
 have hl:stL m st=(stH m st).bytes 21++enc os:=by unfold stL;rw[k.hold.rep.rep.eq]
 have r:=data_read k.hold (H:=hdOf (stL m st)) hl (by rw[HD.bytes_len]) e0 (s.ic.trans q.ic) (fun j hj=>(s.I j (by omega)).trans (q.I j hj)) (x:=i) hi (by rw[kn_at hi];exact htx _ (List.getElem_mem hi))
 rw[hL,kn_at hi]at r
 obtain⟨r1,r2,r3,r4⟩:=r
 refine⟨r1,?_⟩
 unfold payT
 rw[if_pos r1,r3]
theorem pick_at (Z:List (RR×Nat))(p:List Int)(x:Nat)(hx:x<Z.length):
 (p∈paysOf Z[x].1→(pick (Z.take x) p).length<(pick Z p).length∧(pick Z p).getD (pick (Z.take x) p).length 0=Z[x].2∧(pick (Z.take (x+1)) p).length=(pick (Z.take x) p).length+1)∧(p∉paysOf Z[x].1→(pick (Z.take (x+1)) p).length=(pick (Z.take x) p).length):=by
 have e1:Z.take (x+1)=Z.take x++ [Z[x]]:=List.take_succ_eq_append_getElem hx
 have e2:Z=(Z.take x++ [Z[x]])++Z.drop (x+1):=by rw[←e1,List.take_append_drop]
 have e3:pick (Z.take (x+1)) p=pick (Z.take x) p++(if p∈paysOf Z[x].1 then [Z[x].2]else []):=by
  rw[e1,pick_app]
  show _++pick [(Z[x].1,Z[x].2)] p=_
  rw[pick_one]
 refine⟨fun h=>?_,fun h=>by rw[e3,if_neg h,List.append_nil]⟩
 rw[if_pos h]at e3
 have e4:pick Z p=(pick (Z.take x) p++ [Z[x].2])++pick (Z.drop (x+1)) p:=by
  conv=>lhs;rw[←List.take_append_drop (x+1) Z]
  rw[pick_app,e3]
 refine⟨by rw[e4,List.length_append,List.length_append,List.length_singleton];omega,?_,by rw[e3,List.length_append,List.length_singleton]⟩
 rw[e4,List.append_assoc,List.getD_eq_getElem?_getD,List.getElem?_append_right (Nat.le_refl _),Nat.sub_self]
 rfl
end Ht
end Go.Proofs.YtjecmgkmcfkcjaaGreat
