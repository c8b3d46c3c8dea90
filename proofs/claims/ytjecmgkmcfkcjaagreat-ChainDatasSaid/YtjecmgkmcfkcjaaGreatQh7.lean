/-
  Texts beneath the proof.
-/
import Derived.Test.YtjecmgkmcfkcjaaGreatQh6
set_option linter.unusedVariables false
set_option linter.unusedSimpArgs false
set_option maxRecDepth 100000
set_option maxHeartbeats 4000000
open Go.ChangeShapes Go.WideShapes Go.ChangeAt Go.RowKit
namespace Go.Proofs.YtjecmgkmcfkcjaaGreat
namespace Zb
open Bytes8 Ob Ga Ma Za
def wd (os:List O)(a i:Nat):Int:=match obj 272 os a with
 |some o=>o.ws.getD i 0
 |none=>0
structure Sh where
 k:Int
 n:Nat
 tl:List Int
 g:Nat×Nat
def O.sh (o:O):Sh:=⟨o.k,o.ws.length,o.tl,o.g⟩
def shp (os:List O)(a:Nat):Option Sh:=(obj 272 os a).map O.sh
theorem shp_some {os:List O}{a:Nat}{s:Sh}(h:shp os a=some s): ∃o,obj 272 os a=some o∧O.sh o=s:=Option.map_eq_some_iff.1 h
theorem shp_set (os:List O)(a j x:Nat)(v:Int):shp (upd 272 os a (O.setW j v)) x=shp os x:=by
 unfold shp
 rw[obj_upd (O.setW_n j v)]
 split
 ·next e=>
  subst e
  cases obj 272 os x with
  |none=>rfl
  |some o=>simp[O.sh,O.setW]
 ·rfl
theorem wd_set {os:List O}{a j:Nat}{s:Sh}(hs:shp os a=some s)(hj:j<s.n)(v:Int)(x i:Nat):wd (upd 272 os a (O.setW j v)) x i=if x=a∧i=j then v else wd os x i:=by
 obtain⟨o,ho,hsh⟩:=shp_some hs
 subst hsh
 have hj2:j<o.ws.length:=hj
 unfold wd
 rw[obj_upd (O.setW_n j v)]
 by_cases e:x=a
 ·subst e
  rw[if_pos rfl,ho]
  show(o.ws.set j v).getD i 0=if x=x∧i=j then v else o.ws.getD i 0
  by_cases e2:i=j
  ·subst e2
   simp[List.getD_eq_getElem?_getD,List.getElem?_set,hj2]
  ·rw[if_neg (fun h=>e2 h.2)]
   simp[List.getD_eq_getElem?_getD,List.getElem?_set,Ne.symm e2]
 ·rw[if_neg e,if_neg (fun h=>e h.1)]
def endO (os:List O):Nat:=272+(enc os).length
theorem shp_push (os:List O)(o:O)(x:Nat):shp (os++ [o]) x=if x=endO os then some (O.sh o)else shp os x:=by
 unfold shp endO
 rw[obj_app]
 split<;>rfl
theorem wd_push (os:List O)(o:O)(x i:Nat):wd (os++ [o]) x i=if x=endO os then o.ws.getD i 0 else wd os x i:=by
 unfold wd endO
 rw[obj_app]
 by_cases e:x=272+(enc os).length
 ·rw[if_pos e,if_pos e]
 ·rw[if_neg e,if_neg e]
theorem shp_lt {os:List O}{a:Nat}{s:Sh}(h:shp os a=some s):272≤a∧a+16+8*s.n≤endO os:=by
 obtain⟨o,ho,hs⟩:=shp_some h
 have h1:=obj_bd _ _ _ _ ho
 have h2:=o.n_is
 subst hs
 show 272≤a∧a+16+8*o.ws.length≤_
 unfold endO
 omega
structure Stp (os os':List O)(S:Nat→Nat→Prop):Prop where
 shp: ∀x s,shp os x=some s→shp os' x=some s
 wd: ∀x i s,Zb.shp os x=some s→ ¬S x i→wd os' x i=wd os x i
theorem Stp.refl (os:List O)(S:Nat→Nat→Prop):Stp os os S:=⟨fun _ _ h=>h,fun _ _ _ _ _=>rfl⟩
theorem Stp.trans {a b c:List O}{S:Nat→Nat→Prop}(h:Stp a b S)(k:Stp b c S):Stp a c S:=
 ⟨fun x s e=>k.shp x s (h.shp x s e),fun x i s e n=>(k.wd x i s (h.shp x s e) n).trans (h.wd x i s e n)⟩
theorem Stp.mono {a b:List O}{S S':Nat→Nat→Prop}(h:Stp a b S)(hS: ∀x i s,Zb.shp a x=some s→S x i→S' x i):Stp a b S':=⟨h.shp,fun x i s e n=>h.wd x i s e (fun h2=>n (hS x i s e h2))⟩
theorem Stp.set {os:List O}{a j:Nat}{s:Sh}(hs:Zb.shp os a=some s)(hj:j<s.n)(v:Int):Stp os (upd 272 os a (O.setW j v)) (fun x i=>x=a∧i=j):=
 ⟨fun x s e=>by rw[shp_set];exact e,fun x i _ _ n=>by rw[wd_set hs hj,if_neg n]⟩
theorem Stp.push (os:List O)(o:O)(S:Nat→Nat→Prop):Stp os (os++ [o]) S:=
 ⟨fun x s e=>by rw[shp_push,if_neg (by have:=shp_lt e;omega)];exact e,fun x i s e _=>by rw[wd_push,if_neg (by have:=shp_lt e;omega)]⟩
structure RepO (b:List Int)(os:List O):Prop where
 rep:Rep b os
 ok: ∀o∈os,o.Ok
theorem RepO.size {b:List Int}{os:List O}(h:RepO b os):b.length=endO os:=h.rep.size
theorem RepO.put {b:List Int}{os:List O}(h:RepO b os){a x j:Nat}{s:Sh}(hs:shp os a=some s)(hj:j<s.n)(hx:x=a+16+8*j){v:Int}(hv:0≤v∧v≤18446744073709551615):RepO (put8 b x v) (upd 272 os a (O.setW j v)):=by
 obtain⟨o,ho,hsh⟩:=shp_some hs
 subst hsh
 refine⟨h.rep.put ho hj hx v,fun y hy=>?_⟩
 rcases upd_mem _ _ _ _ hy with h1|⟨o2,h1,rfl⟩
 ·exact h.ok y h1
 ·exact(h.ok o2 (obj_mem _ _ _ _ h1)).setW j hv
theorem RepO.front {b:List Int}{os:List O}(h:RepO b os){x:Nat}(hx:x+8≤272)(v:Int):RepO (put8 b x v) os:=⟨h.rep.front hx v,h.ok⟩
theorem RepO.push {b:List Int}{os:List O}(h:RepO b os)(o:O)(ho:o.Ok):RepO (b++o.enc) (os++ [o]):=⟨h.rep.push o,fun y hy=>by
 rcases List.mem_append.1 hy with h1|h1
 ·exact h.ok y h1
 ·rw[List.mem_singleton]at h1;exact h1▸ho⟩
def Fol (nx:Nat→Int):Int→List Nat→Prop
 |a,[]=>a=0
 |a,x::xs=>a=(x:Int)∧Fol nx (nx x) xs
theorem Fol.cong {nx ny:Nat→Int}: ∀(l:List Nat) (a:Int),Fol nx a l→(∀x∈l,ny x=nx x)→Fol ny a l
 | [],a,h,_=>h
 |x::xs,a,h,e=>⟨h.1,by
  rw[e x (List.mem_cons_self ..)]
  exact Fol.cong xs _ h.2 (fun y hy=>e y (List.mem_cons_of_mem _ hy))⟩
theorem Fol.snoc {nx ny:Nat→Int}{z:Nat}: ∀(l:List Nat) (a:Int) (hne:l≠ []),Fol nx a l→l.Pairwise (· < ·)→(∀x∈l,x≠l.getLast hne→ny x=nx x)→ny (l.getLast hne)=(z:Int)→ny z=0→Fol ny a (l++ [z])
 | [],a,hne,_,_,_,_,_=>absurd rfl hne
 | [x],a,hne,h,_,_,h1,h2=>⟨h.1,h1,h2⟩
 |x::y::t,a,hne,h,hs,he,h1,h2=>by
  have hy:(x::y::t).getLast hne=(y::t).getLast (by simp):=rfl
  rw[List.pairwise_cons]at hs
  refine⟨h.1,?_⟩
  have hx:x≠(x::y::t).getLast hne:=by
   rw[hy]
   have:=hs.1 _ (List.getLast_mem (l:=y::t) (by simp))
   omega
  show Fol ny (ny x) ((y::t)++ [z])
  rw[he x (List.mem_cons_self ..) hx]
  exact Fol.snoc (y::t) _ (by simp) h.2 hs.2 (fun w hw hwn=>he w (List.mem_cons_of_mem _ hw) (by rw[hy];exact hwn)) (by rw[←hy];exact h1) h2
def pl (l:List Kn)(s:Nat):List Nat:=(l.filter fun k=>k.slot==s).map Kn.at_
abbrev Asc (l:List Kn):Prop:=(l.map Kn.at_).Pairwise (· < ·)
theorem Asc.pl {l:List Kn}(h:Asc l)(s:Nat):(pl l s).Pairwise (· < ·):=by
 unfold Zb.pl
 exact List.Pairwise.sublist ((List.filter_sublist).map Kn.at_) h
theorem Asc.inj: ∀ {l:List Kn},Asc l→ ∀ {d e:Kn},d∈l→e∈l→d.at_=e.at_→d=e
 | [],_,d,e,hd,_,_=>by cases hd
 |x::l,h,d,e,hd,he,h1=>by
  have h2:((x::l).map Kn.at_).Pairwise (· < ·):=h
  rw[List.map_cons,List.pairwise_cons]at h2
  rcases List.mem_cons.1 hd with e1|hd2
  ·rcases List.mem_cons.1 he with e2|he2
   ·rw[e1,e2]
   ·have:=h2.1 _ (List.mem_map_of_mem he2);rw[e1]at h1;omega
  ·rcases List.mem_cons.1 he with e2|he2
   ·have:=h2.1 _ (List.mem_map_of_mem hd2);rw[e2]at h1;omega
   ·exact Asc.inj h2.2 hd2 he2 h1
theorem mem_pl {l:List Kn}{s x:Nat}(h:x∈pl l s): ∃d∈l,d.slot=s∧d.at_=x:=by
 obtain⟨d,hd,e⟩:=List.mem_map.1 h
 rw[List.mem_filter]at hd
 exact⟨d,hd.1,by simpa using hd.2,e⟩
theorem pl_snoc (l:List Kn)(k:Kn)(s:Nat):pl (l++ [k]) s=if k.slot=s then pl l s++ [k.at_]else pl l s:=by
 unfold pl
 rw[List.filter_append]
 by_cases h:k.slot=s
 ·simp[h]
 ·simp[h]
theorem pl_nil {l:List Kn}{s:Nat}(h:inSlot l s=0):pl l s=[]:=by
 unfold inSlot at h
 unfold pl
 rw[List.eq_nil_of_length_eq_zero h];rfl
theorem pl_last {l:List Kn}{s:Nat}(h:inSlot l s≠0): ∃hne:pl l s≠ [],(pl l s).getLast hne=lastIn l s:=by
 unfold inSlot at h
 have h1:(l.filter fun k=>k.slot==s)≠ []:=fun e=>h (by rw[e];rfl)
 have h2:pl l s≠ []:=by unfold pl;simpa using h1
 refine⟨h2,?_⟩
 have h3:(pl l s).getLast? =some (lastIn l s):=by
  unfold pl lastIn
  rw[List.getLast?_map,List.getLast?_eq_some_getLast h1]
  rfl
 rw[List.getLast?_eq_some_getLast h2]at h3
 injection h3
structure TabW (os:List O)(a:Nat)(k:Int)(n:Nat)(l:List Kn):Prop where
 sh: ∃g,shp os a=some ⟨k,2*n,[],g⟩
 fol: ∀s,s<n→Fol (fun x=>wd os x 1) (wd os a (2*s)) (pl l s)
 last: ∀s,s<n→wd os a (2*s+1)=(lastIn l s:Nat)
theorem TabW.stp {os os':List O}{a:Nat}{k:Int}{n:Nat}{l:List Kn}(h:TabW os a k n l){S:Nat→Nat→Prop}(t:Stp os os' S)(ha: ∀i,¬S a i)(hl: ∀d∈l,(∃s,shp os d.at_=some s)∧ ¬S d.at_ 1):TabW os' a k n l:=by
 obtain⟨g,hg⟩:=h.sh
 refine⟨⟨g,t.shp _ _ hg⟩,fun s hs=>?_,fun s hs=>?_⟩
 ·rw[t.wd _ _ _ hg (ha _)]
  refine Fol.cong _ _ (h.fol s hs) (fun x hx=>?_)
  obtain⟨d,hd,_,e⟩:=mem_pl hx
  obtain⟨⟨s2,h2⟩,h3⟩:=hl d hd
  rw[←e]
  exact t.wd _ _ _ h2 h3
 ·rw[t.wd _ _ _ hg (ha _)]
  exact h.last s hs
theorem hung_W {b:List Int}{os:List O}{a:Nat}{k:Int}{n:Nat}{l:List Kn}(h:RepO b os)(t:TabW os a k n l)(kn:Kn){s:Sh}(hz:shp os kn.at_=some s)(hn:1<s.n)(h0:wd os kn.at_ 1=0)(hza:kn.at_≠a)
 (hl: ∀d∈l,(∃s2,shp os d.at_=some s2∧1<s2.n)∧d.at_≠a∧d.at_<kn.at_)(hasc:Asc l)(hs:kn.slot<n)(hb:b.length≤10000000):
 ∃os',RepO (hung b l (a+16) kn.at_ kn.slot) os'∧Stp os os' (fun x i=>x=a∨(i=1∧ ∃d∈l,d.at_=x))∧(∀x,shp os' x=shp os x)∧TabW os' a k n (l++ [kn]):=by
 obtain⟨g,hg⟩:=t.sh
 obtain⟨z,slot,hzs⟩: ∃z slot,z=kn.at_∧slot=kn.slot:=⟨_,_,rfl,rfl⟩
 obtain⟨e1,e2⟩:=hzs
 rw[←e1]at hz h0 hza⊢
 rw[←e2]at hs⊢
 have hl': ∀d∈l,(∃s2,shp os d.at_=some s2∧1<s2.n)∧d.at_≠a∧d.at_<z:=by rw[e1];exact hl
 have hzb:=shp_lt hz
 have hsz:=h.size
 have hv:0≤(z:Int)∧(z:Int)≤18446744073709551615:=by omega
 unfold hung
 by_cases hin:inSlot l slot=0
 ·rw[if_pos hin]
  have r1:=h.put hg (j:=2*slot) (x:=a+16+16*slot) (by show 2*slot<2*n;omega) (by omega) hv
  have s1:=Stp.set hg (j:=2*slot) (by show 2*slot<2*n;omega) (z:Int)
  have w1:=wd_set hg (j:=2*slot) (by show 2*slot<2*n;omega) (z:Int)
  have q1:=fun x=>shp_set os a (2*slot) x (z:Int)
  generalize upd 272 os a (O.setW (2*slot) (z:Int))=o1 at*
  have hg1:shp o1 a=some ⟨k,2*n,[],g⟩:=by rw[q1];exact hg
  have r2:=r1.put hg1 (j:=2*slot+1) (x:=a+16+16*slot+8) (by show 2*slot+1<2*n;omega) (by omega) hv
  have s2:=Stp.set hg1 (j:=2*slot+1) (by show 2*slot+1<2*n;omega) (z:Int)
  have w2:=wd_set hg1 (j:=2*slot+1) (by show 2*slot+1<2*n;omega) (z:Int)
  have q2:=fun x=>shp_set o1 a (2*slot+1) x (z:Int)
  generalize upd 272 o1 a (O.setW (2*slot+1) (z:Int))=o2 at*
  have st:Stp os o2 (fun x i=>x=a∨(i=1∧ ∃d∈l,d.at_=x)):=(s1.mono fun x i _ _ h=> .inl h.1).trans (s2.mono fun x i _ _ h=> .inl h.1)
  have hw: ∀x i,x≠a→wd o2 x i=wd os x i:=fun x i hx=>by rw[w2,if_neg (fun h=>hx h.1),w1,if_neg (fun h=>hx h.1)]
  refine⟨o2,r2,st,fun x=>by rw[q2,q1],⟨g,by rw[q2,q1];exact hg⟩,fun s hsn=>?_,fun s hsn=>?_⟩
  ·rw[pl_snoc,←e1,←e2]
   by_cases he:slot=s
   ·subst he
    rw[if_pos rfl,pl_nil hin]
    refine⟨?_,?_⟩
    ·rw[w2,if_neg (by omega),w1,if_pos ⟨rfl,rfl⟩]
    ·show wd o2 z 1=0
     rw[hw z 1 hza];exact h0
   ·rw[if_neg he,w2,if_neg (by omega),w1,if_neg (by omega)]
    refine Fol.cong _ _ (t.fol s hsn) (fun x hx=>?_)
    obtain⟨d,hd,_,e⟩:=mem_pl hx
    rw[←e]
    exact hw _ _ (hl' d hd).2.1
  ·rw[lastIn_snoc,←e1,←e2]
   by_cases he:slot=s
   ·subst he
    rw[if_pos rfl,w2,if_pos ⟨rfl,rfl⟩]
   ·rw[if_neg he,w2,if_neg (by omega),w1,if_neg (by omega)]
    exact t.last s hsn
 ·rw[if_neg hin]
  obtain⟨hne,hla⟩:=pl_last hin
  obtain⟨dl,hdl,hds,hda⟩:=mem_pl (List.getLast_mem hne)
  rw[hla]at hda
  obtain⟨⟨s3,h3,h4⟩,h5,h6⟩:=hl' dl hdl
  rw[hda]at h3 h5 h6
  generalize hLL:lastIn l slot=L at*
  have r1:=h.put h3 (j:=1) (x:=L+24) h4 (by omega) hv
  have s1:=Stp.set h3 (j:=1) h4 (z:Int)
  have w1:=wd_set h3 (j:=1) h4 (z:Int)
  have q1:=fun x=>shp_set os L 1 x (z:Int)
  generalize upd 272 os L (O.setW 1 (z:Int))=o1 at*
  have hg1:shp o1 a=some ⟨k,2*n,[],g⟩:=by rw[q1];exact hg
  have r2:=r1.put hg1 (j:=2*slot+1) (x:=a+16+16*slot+8) (by show 2*slot+1<2*n;omega) (by omega) hv
  have s2:=Stp.set hg1 (j:=2*slot+1) (by show 2*slot+1<2*n;omega) (z:Int)
  have w2:=wd_set hg1 (j:=2*slot+1) (by show 2*slot+1<2*n;omega) (z:Int)
  have q2:=fun x=>shp_set o1 a (2*slot+1) x (z:Int)
  generalize upd 272 o1 a (O.setW (2*slot+1) (z:Int))=o2 at*
  have st:Stp os o2 (fun x i=>x=a∨(i=1∧ ∃d∈l,d.at_=x)):=(s1.mono fun x i _ _ h=> .inr ⟨h.2,dl,hdl,by rw[hda];exact h.1.symm⟩).trans (s2.mono fun x i _ _ h=> .inl h.1)
  refine⟨o2,r2,st,fun x=>by rw[q2,q1],⟨g,by rw[q2,q1];exact hg⟩,fun s hsn=>?_,fun s hsn=>?_⟩
  ·have ea:wd o2 a (2*s)=wd os a (2*s):=by rw[w2,if_neg (by omega),w1,if_neg (fun h=>h5 h.1.symm)]
   rw[pl_snoc,←e1,←e2,ea]
   by_cases he:slot=s
   ·subst he
    rw[if_pos rfl]
    refine Fol.snoc (nx:=fun x=>wd os x 1) _ _ hne (t.fol slot hsn) (hasc.pl slot) (fun x hx hxl=>?_) ?_ ?_
    ·obtain⟨d,hd,_,e⟩:=mem_pl hx
     rw[hla]at hxl
     show wd o2 x 1=wd os x 1
     rw[w2,if_neg (fun h=>(hl' d hd).2.1 (e.trans h.1)),w1,if_neg (fun h=>hxl h.1)]
    ·rw[hla]
     show wd o2 L 1=z
     rw[w2,if_neg (fun h=>h5 h.1),w1,if_pos ⟨rfl,rfl⟩]
    ·show wd o2 z 1=0
     rw[w2,if_neg (fun h=>hza h.1),w1,if_neg (by omega)]
     exact h0
   ·rw[if_neg he]
    refine Fol.cong _ _ (t.fol s hsn) (fun x hx=>?_)
    obtain⟨d,hd,hdst,e⟩:=mem_pl hx
    show wd o2 x 1=wd os x 1
    rw[w2,if_neg (fun h=>(hl' d hd).2.1 (e.trans h.1)),w1,if_neg (fun h=>?_)]
    have:=hasc.inj hd hdl (by rw[e,hda];exact h.1)
    rw[this]at hdst
    omega
  ·rw[lastIn_snoc,←e1,←e2]
   by_cases he:slot=s
   ·subst he
    rw[if_pos rfl,w2,if_pos ⟨rfl,rfl⟩]
   ·rw[if_neg he,w2,if_neg (by omega),w1,if_neg (fun h=>h5 h.1.symm)]
    exact t.last s hsn
end Zb
namespace Sd
open Bytes8 Blk8 Hm Sa Sm Sc
def QuadAt (w0:World)(g:Nat)(f:Quad)(w:World):Prop:=Blk w g [.int .u64 f.p,.int .u64 f.q,.int .u64 f.r,.int .u64 f.s] 315∧Below w0.heap.size w0 w
theorem quad_step {w0 w:World}{g:Nat}{p q r s:Value}(h:Blk w g [p,q,r,s] 315)(hb:Below w0.heap.size w0 w)(hg:w0.heap.size≤g)(f:Quad):
 QuadAt w0 g f ((((w.setCell ⟨g,0,none⟩ (.int .u64 f.p)).setCell ⟨g,1,none⟩ (.int .u64 f.q)).setCell ⟨g,2,none⟩ (.int .u64 f.r)).setCell ⟨g,3,none⟩ (.int .u64 f.s)):=
 ⟨(((h.set_ 0 _).set_ 1 _).set_ 2 _).set_ 3 _,(((hb.setCell hg _).setCell hg _).setCell hg _).setCell hg _⟩
theorem sipEnd_four (f:Quad)(m:Int)(G:Quad)(hG:quadPlus f m=G):sipEnd f m=bits .xor .u64 (bits .xor .u64 (bits .xor .u64 (rounds ⟨G.p,G.q,bits .xor .u64 G.r 255,G.s⟩ 4).p (rounds ⟨G.p,G.q,bits .xor .u64 G.r 255,G.s⟩ 4).q) (rounds ⟨G.p,G.q,bits .xor .u64 G.r 255,G.s⟩ 4).r) (rounds ⟨G.p,G.q,bits .xor .u64 G.r 255,G.s⟩ 4).s:=by subst hG;rfl
theorem six_of {w:World}{g:Nat}{a b c d e f:Value}{T:TypeId}(h:Blk w g [a,b,c,d,e,f] T):
 w.cell? ⟨g,0,none⟩=some a∧w.cell? ⟨g,1,none⟩=some b∧w.cell? ⟨g,2,none⟩=some c∧w.cell? ⟨g,3,none⟩=some d∧w.cell? ⟨g,4,none⟩=some e∧w.cell? ⟨g,5,none⟩=some f:=
 ⟨h.cell (i:=0) rfl,h.cell (i:=1) rfl,h.cell (i:=2) rfl,h.cell (i:=3) rfl,h.cell (i:=4) rfl,h.cell (i:=5) rfl⟩
theorem four_far {w:World}{g b:Nat}{vs:List Value}{T:TypeId}(h:Blk w g vs T)(hg:g≠b)(p q r s:Value):
 Blk ((((w.setCell ⟨b,0,none⟩ p).setCell ⟨b,1,none⟩ q).setCell ⟨b,2,none⟩ r).setCell ⟨b,3,none⟩ s) g vs T:=
 (((h.far (p:=⟨b,0,none⟩) hg _).far (p:=⟨b,1,none⟩) hg _).far (p:=⟨b,2,none⟩) hg _).far (p:=⟨b,3,none⟩) hg _
theorem zero_blk {w w3:World}(hb3:Below (World.drew (World.alloc w (.cells #[.int .u64 0,.int .u64 0,.int .u64 0,.int .u64 0] 315))).heap.size (World.drew (World.alloc w (.cells #[.int .u64 0,.int .u64 0,.int .u64 0,.int .u64 0] 315))) w3):Blk w3 w.heap.size [.int .u64 0,.int .u64 0,.int .u64 0,.int .u64 0] 315:=(Blk.new_at w _ _ _ rfl).drew.below hb3 (by simp)
theorem zero_below {w w3:World}(hb3:Below (World.drew (World.alloc w (.cells #[.int .u64 0,.int .u64 0,.int .u64 0,.int .u64 0] 315))).heap.size (World.drew (World.alloc w (.cells #[.int .u64 0,.int .u64 0,.int .u64 0,.int .u64 0] 315))) w3):Below w.heap.size w w3:=((Below.refl _ _).alloc (Nat.le_refl _) _).drew.trans (hb3.mono (by simp))
theorem zero_cell {w w3:World}(hb3:Below (World.drew (World.alloc w (.cells #[.int .u64 0,.int .u64 0,.int .u64 0,.int .u64 0] 315))).heap.size (World.drew (World.alloc w (.cells #[.int .u64 0,.int .u64 0,.int .u64 0,.int .u64 0] 315))) w3)(i:Nat)(hi:i<4):w3.cell? ⟨w.heap.size,i,none⟩=some (.int .u64 0):=by
 have hB:Blk w3 w.heap.size [.int .u64 0,.int .u64 0,.int .u64 0,.int .u64 0] 315:=(Blk.new_at w _ _ _ rfl).drew.below hb3 (by simp)
 match i,hi with
 |0,_=>exact hB.cell rfl
 |1,_=>exact hB.cell rfl
 |2,_=>exact hB.cell rfl
 |3,_=>exact hB.cell rfl
theorem zero_frozen {w w3:World}(hb3:Below (World.drew (World.alloc w (.cells #[.int .u64 0,.int .u64 0,.int .u64 0,.int .u64 0] 315))).heap.size (World.drew (World.alloc w (.cells #[.int .u64 0,.int .u64 0,.int .u64 0,.int .u64 0] 315))) w3)(i:Nat):w3.frozen? ⟨w.heap.size,i,none⟩=false:=by
 have hB:Blk w3 w.heap.size [.int .u64 0,.int .u64 0,.int .u64 0,.int .u64 0] 315:=(Blk.new_at w _ _ _ rfl).drew.below hb3 (by simp)
 exact hB.frozen i
set_option maxRecDepth 100000 in
theorem value_any (K:Nat→Int)(g:Nat)(l:List Int)(w:World)(hs:SumAt w g (idL K) l):
 Calls Tryz.prog 205 #[.pointer (some ⟨g,0,none⟩)] w fun e w'=>e= .returned (.int .u64 (sipS (idL K) l))∧Below w.heap.size w w':=by
 obtain⟨hA,hB⟩:=hs
 obtain⟨z,hz⟩: ∃z,(l.length:Int)%256=z:=⟨_,rfl⟩
 obtain⟨M,hM⟩: ∃M,last8 l=M:=⟨_,rfl⟩
 obtain⟨G,hG⟩: ∃G,quadPlus (quadAt (idL K) l (l.length/8)) M=G:=⟨_,rfl⟩
 have hE:=sipEnd_four _ _ _ hG
 have hS:sipS (idL K) l=sipEnd (quadAt (idL K) l (l.length/8)) M:=by unfold sipS;rw[hM]
 have HE:=Lib.hid (hS.trans hE)
 rw[last8_left,hz]at hM
 rw[hz]at hB
 have z0:0≤z:=by omega
 have z1:z≤255:=by omega
 have hM2:bits .or .u64 (left8 l) (IntKind.u64.wrap (z*72057594037927936))=M:=by rw[IntKind.wrap_u64,show z*72057594037927936%18446744073709551616=z*72057594037927936 by omega];exact hM
 have hwz:IntKind.u64.wrap z=z:=by rw[IntKind.wrap_u64];omega
 have hp:=fun w=>qplus_q (quadAt (idL K) l (l.length/8)) M w (quadAt_ok _ _ _)
 rw[hG]at hp
 have HP:=Lib.hid hp
 clear hp
 have HO:Hid G.ok:=by rw[←hG];exact Lib.hid (quadPlus_ok _ _)
 generalize quadAt (idL K) l (l.length/8)=F at*
 generalize left8 l=L at*
 clear hz hG hE hS hA
 have g0:=hB.cell (i:=0) rfl
 have g1:=hB.cell (i:=1) rfl
 have g2:=hB.cell (i:=2) rfl
 have g3:=hB.cell (i:=3) rfl
 have g4:=hB.cell (i:=4) rfl
 have g5:=hB.cell (i:=5) rfl
 have R:=Lib.hid hB
 have hgl:=hB.lt
 have hgne:g≠w.heap.size:=by omega
 clear hB
 go_enter Tryz.func205,Tryz.ntmps205
 go_wp2
 go_cut [3]from 4 to 19 (fun f wx=> ∃gq,f= .pointer (some ⟨gq,0,none⟩)∧w.heap.size≤gq∧Hid (QuadAt w gq G wx))
 case first=>
  go_region_held3 (fun w'=>w'.cell? ⟨g,0,none⟩=some (.int .u64 F.p)∧w'.cell? ⟨g,1,none⟩=some (.int .u64 F.q)∧w'.cell? ⟨g,2,none⟩=some (.int .u64 F.r)∧w'.cell? ⟨g,3,none⟩=some (.int .u64 F.s)∧w'.cell? ⟨g,4,none⟩=some (.int .u64 L)∧w'.cell? ⟨g,5,none⟩=some (.int .u8 z)) (first|(with_reducible exact⟨g0,g1,g2,g3,g4,g5⟩)|(with_reducible exact r3)|(with_reducible exact six_of (four_far R3 hgne _ _ _ _))|(with_reducible exact six_of (R3.alloc _))|go_keep)
   (first|(go_at_call 222;(with_reducible refine(HP.out _).mono ?_);rintro e w3 ⟨rfl,hb3⟩;first|((with_reducible replace hb3:Below (World.drew (World.alloc w (.cells #[.int .u64 0,.int .u64 0,.int .u64 0,.int .u64 0] 315))).heap.size (World.drew (World.alloc w (.cells #[.int .u64 0,.int .u64 0,.int .u64 0,.int .u64 0] 315))) w3:=hb3);have hB3:=zero_below hb3;have R3:=R.out.below hB3 hgl;have hg3:=R3.lt;have r3:=six_of R3;have q0:=zero_cell hb3 0 (by decide);have y0:=zero_frozen hb3 0;have q1:=zero_cell hb3 1 (by decide);have y1:=zero_frozen hb3 1;have q2:=zero_cell hb3 2 (by decide);have y2:=zero_frozen hb3 2;have q3:=zero_cell hb3 3 (by decide);have y3:=zero_frozen hb3 3)|(have hB3:=(Below.refl _ w).drew.trans hb3;have R3:=R.out.below hB3 hgl;have hg3:=R3.lt;have r3:=six_of R3)))
  all_goals
   go_wp2_with fail
   go_meet
   case rel=>
    first
     |exact⟨_,rfl,hB3.size,Lib.hid ⟨Blk.new_at w3 _ _ _ rfl,hB3.alloc hB3.size _⟩⟩
     |exact⟨_,rfl,Nat.le_refl _,Lib.hid (quad_step (zero_blk hb3) hB3 (Nat.le_refl _) G)⟩
 case rest=>
  obtain⟨gq,rfl,hgq,hq⟩:=hcut
  have Q1:=Lib.hid hq.out.1
  have Q2:=Lib.hid hq.out.2
  have v0:=Q1.out.cell (i:=2) rfl
  have v1:=Q1.out.frozen 2
  clear hM hM2 hwz g0 g1 g2 g3 g4 g5 hgl hgne hq
  have HRn:=Lib.hid fun k=>rounds_ok ⟨G.p,G.q,bits .xor .u64 G.r 255,G.s⟩ ⟨HO.out.1,HO.out.2.1,b64 .xor _ _,HO.out.2.2.2⟩ k
  go_wp2
  clear v0 v1
  have Q3:QuadAt w gq ⟨G.p,G.q,bits .xor .u64 G.r 255,G.s⟩ (wc.setCell ⟨gq,2,none⟩ (.int .u64 (bits .xor .u64 G.r 255))):=⟨Q1.out.set_ 2 _,Q2.out.setCell hgq _⟩
  generalize wc.setCell ⟨gq,2,none⟩ (.int .u64 (bits .xor .u64 G.r 255))=w5 at Q3⊢
  have Q3:=Lib.hid Q3
  generalize (⟨G.p,G.q,bits .xor .u64 G.r 255,G.s⟩:Quad)=Y at*
  go_loopw [24] (fun i wr=> ∃k:Nat,k≤4∧i= .int .i64 k∧Hid (QuadAt w gq (rounds Y k) wr)) (fun i _=>4-(intOf i).toNat)
  case atStart=>exact⟨0,by omega,rfl,Q3⟩
  case round=>
   obtain⟨k,hk,rfl,hr⟩:=hrel
   have P1:=Lib.hid hr.out.1
   have P2:=Lib.hid hr.out.2
   have g0:=P1.out.cell (i:=0) rfl
   have g1:=P1.out.cell (i:=1) rfl
   have g2:=P1.out.cell (i:=2) rfl
   have g3:=P1.out.cell (i:=3) rfl
   have hz:=P1.out.lt
   by_cases hlt:k<4
   ·have hd:decide (k<4)=true:=by simpa using hlt
    have HR:=Lib.hid fun W=>round_q (rounds Y k) W (HRn.out k)
    have HN:rounds Y (k+1)=round (rounds Y k):=rfl
    have HN:=Lib.hid HN
    go_wp2_with(go_at_call 223;(with_reducible refine(HR.out _).mono ?_);rintro e w6 ⟨rfl,hb6⟩;have R6:=Lib.hid (P1.out.below hb6 hz);have a0:=R6.out.cell (i:=0) rfl;have a1:=R6.out.cell (i:=1) rfl;have a2:=R6.out.cell (i:=2) rfl;have a3:=R6.out.cell (i:=3) rfl;have b0:=R6.out.frozen 0;have b1:=R6.out.frozen 1;have b2:=R6.out.frozen 2;have b3:=R6.out.frozen 3)
    go_roundw
    case rel=>exact⟨k+1,by omega,by go_num,Lib.hid (quad_step R6.out (P2.out.trans (hb6.mono P2.out.size)) hgq (round (rounds Y k)))⟩
    case measure=>simp[intOf];omega
   ·obtain rfl:k=4:=by omega
    have hd:decide (4<4)=false:=rfl
    go_wp2
    go_ret
    exact⟨ret_int HE.out.symm,P2.out⟩
end Sd
namespace Se
open Bytes8 Blk8 Own8 Hm Sc Sd
theorem new_at (K:Nat→Int)(w:World)(n:Nat)(hn:w.heap.size+1=n)(hk:IdOk K):
 Calls Tryz.prog 203 #[idV K] w fun e w'=>e= .returned (.pointer (some ⟨n,0,none⟩))∧SumAt w' n (idL K) []∧Below w.heap.size w w':=by
 subst hn;exact new_any K w hk
theorem bytes_spot {w:World}{A:Option Addr}{l:List Int}(h:Bytes w A l){B:Nat}(hB:w.heap.size≤B):0<l.length→ ∀b off,A=some ⟨b,off,none⟩→b≠B:=by
 intro hp b off e
 obtain⟨b',off',e',hlt,_⟩:=h.spot hp
 rw[e]at e';simp at e';obtain⟨rfl,rfl⟩:=e';omega
set_option maxRecDepth 100000 in
theorem sip_any (K:Nat→Int)(A:Option Addr)(l:List Int)(len cap:Nat)(w:World)(hk:IdOk K)(hb:Bytes w A l)(hL:l.length=len)(hmax:len≤800000):
 Calls Tryz.prog 172 #[idV K,.slice A len cap] w fun e w'=>e= .returned (.int .u64 (sipS (idL K) l))∧Below w.heap.size w w':=by
 have HNew:=Lib.hid (new_at K (w.alloc (idC 62 K)) (w.heap.size+1+1) (by simp) hk)
 have HB:=Lib.hid hb
 have HL:=Lib.hid hL
 have HSp:=Lib.hid (bytes_spot hb (B:=w.heap.size+1+1) (by omega))
 clear hb hL
 go_enter Tryz.func172,Tryz.ntmps172
 go_wp2_with(first|(go_at_call 203;(with_reducible refine HNew.out.mono ?_);rintro e w1 ⟨rfl,hs1,hb1⟩;have HS1:=Lib.hid hs1;clear hs1;have k1:=((Below.refl w.heap.size w).alloc (Nat.le_refl _) (idC 62 K)).trans (hb1.mono (by simp));have HAdd:=Lib.hid (add_any K _ A [] l len cap w1 HS1.out (HB.out.below k1 (Nat.le_refl _)) HL.out (by omega) (by rw[←HL.out];exact HSp.out)))|(go_at_call 204;(with_reducible refine HAdd.out.mono ?_);rintro e w2 ⟨rfl,hs2,hg2⟩;rw[List.nil_append]at hs2;have HV:=Lib.hid (value_any K _ l w2 hs2);clear hs2)|(go_at_call 205;(with_reducible refine HV.out.mono ?_);rintro e w3 ⟨rfl,hb3⟩))
 go_ret
 have k2:=k1.grown hg2 k1.size (fun k h=>by injection h with h;omega)
 exact⟨rfl,k2.trans (hb3.mono k2.size)⟩
end Se
namespace Sf
end Sf
namespace Sg
open Bytes8 Blk8 Own8 Se
theorem of_any (t:Bool)(K:Nat→Int)(A:Option Addr)(l:List Int)(len cap:Nat)(w:World)(hk:IdOk K)(hb:Bytes w A l)(hL:l.length=len)(hmax:len≤800000)(hcap:len≤cap)(hcap2:cap≤maxLen):
 Calls Tryz.prog 121 #[.bool t,idV K,.slice A len cap] w fun e w'=>e= .returned (.int .u64 (ofS t (idL K) l))∧Below w.heap.size w w':=by
 have HB:=Lib.hid hb
 cases t with
 |true=>
  have HC:=Lib.hid (sip_any K A l len cap (w.alloc (idC 62 K)) hk (hb.below ((Below.refl _ _).alloc (Nat.le_refl _) _) (Nat.le_refl _)) hL hmax)
  clear hb
  go_enter Tryz.func121,Tryz.ntmps121
  go_wp2_with(go_at_call 172;(with_reducible refine HC.out.mono ?_);rintro e w1 ⟨rfl,hb1⟩)
  go_ret
  exact⟨rfl,((Below.refl w.heap.size w).alloc (Nat.le_refl _) _).trans (hb1.mono (by simp))⟩
 |false=>
  have HC:=Lib.hid (look_all A l len cap (w.alloc (idC 62 K)) (hb.below ((Below.refl _ _).alloc (Nat.le_refl _) _) (Nat.le_refl _)) hL hmax hcap hcap2)
  clear hb hcap2
  go_enter Tryz.func121,Tryz.ntmps121
  go_wp2_with(go_at_call 173;(with_reducible refine HC.out.mono ?_);rintro e w1 ⟨rfl,hb1⟩)
  go_ret
  exact⟨rfl,((Below.refl w.heap.size w).alloc (Nat.le_refl _) _).trans (hb1.mono (by simp))⟩
end Sg
namespace Ok7
open Bytes8 Blk8 Own8 OwnM OwnE Ob Oc Od Oi Oj
theorem number_any (A:Option Addr)(l:List Int)(n cap i:Nat)(w:World)(hb:Bytes w A l)(hL:l.length=n)(hn:n≤1000000)(hi:8*i+8≤n):
 Calls Tryz.prog 120 #[.slice A n cap,.int .i64 (i:Int)] w fun e w'=>e= .returned (.int .u64 (u8 l (8*i)))∧w=w':=by
 have HG:=Lib.hid fun(z:Int) (hz:z=((8*i:Nat):Int))=>get8 A l n cap (8*i) z w hz hL hn hb (by omega)
 generalize u8 l (8*i)=x at*
 clear hb hL
 go_enter Tryz.func120,Tryz.ntmps120
 go_wp2_with(go_at_call 96;(with_reducible refine(HG.out _ (by omega)).mono ?_);rintro e w' ⟨rfl,rfl⟩)
 go_ret
 exact⟨rfl,rfl⟩
theorem bytes_far {w:World}{A:Option Addr}{l:List Int}{g:Nat}(h:Bytes w A l)(hA: ∀b off,A=some ⟨b,off,none⟩→b≠g)(i:Nat)(v:Value):Bytes (w.setCell ⟨g,i,none⟩ v) A l:=by
 refine⟨h.1,fun j hj=>?_⟩
 obtain⟨b,off,e,h1,h2⟩:=h.2 j hj
 refine⟨b,off,e,by simpa using h1,?_⟩
 rw[World.cell?_of_block (Below.heap_setCell w ⟨g,i,none⟩ v b (hA b off e))]
 exact h2
def Cap (B:Nat)(A:Option Addr)(m c:Nat):Prop:=m≤1000000∧m≤c∧c≤maxLen∧ ∀b off,A=some ⟨b,off,none⟩→B≤b
theorem Cap.mono {B C:Nat}{A:Option Addr}{m c:Nat}(h:Cap B A m c)(hc:C≤B):Cap C A m c:=⟨h.1,h.2.1,h.2.2.1,fun b off e=>Nat.le_trans hc (h.2.2.2 b off e)⟩
theorem clone_cap (A:Option Addr)(l:List Int)(len cap:Nat)(w:World)(hb:Bytes w A l)(hL:l.length=len)(hmax:len≤1000000):
 Calls Tryz.prog 68 #[.slice A len cap] w fun e w'=> ∃A2 c2,e= .returned (.slice A2 len c2)∧Bytes w' A2 l∧Below w.heap.size w w'∧Cap w.heap.size A2 len c2:=by
 have q22: ∀(w:World) (a:Option Addr) (n c n' c':Nat),(binOp .eql 23 (.slice a n c) (.slice none n' c')).run Tryz.prog w= .ok (.bool a.isNone) w:=fun w a n c n' c'=>Lib.run_eql_slice_nil w _ _ a n c n' c' Tryz.underlying23
 cases A with
 |none=>
  have h0:l=[]:=by
   rcases l with _|⟨x,r⟩
   ·rfl
   ·obtain⟨b,off,e,_⟩:=hb.2 0 (by simp)
    cases e
  subst h0
  obtain rfl:len=0:=by simpa using hL.symm
  clear hb hL
  go_enter Tryz.func68,Tryz.ntmps68
  go_wp2
  go_ret
  exact⟨none,0,rfl,Bytes.nil _ _,Below.refl _ _,by decide,by decide,by decide,fun b off h=>by cases h⟩
 |some a=>
  have HB:=Lib.hid (hb.below ((Below.refl w.heap.size w).alloc (Nat.le_refl _) (.cells #[] 5)) (Nat.le_refl _))
  have HL:=Lib.hid hL
  clear hb hL
  go_enter Tryz.func68,Tryz.ntmps68
  go_wp2_with(at_builtin;refine wpList_append_bytes rfl (.tmp 5) (.tmp 6) rfl w.heap.size _ 0 0 [] rfl (Own.made w _ (Nat.le_refl _)) (some a) len cap l rfl HB.out HL.out (by omega) ?_;intro A2 c2 w2 ho2 hbel2;rw[Nat.zero_add,List.nil_append]at ho2;rw[Nat.zero_add];have HO2:=Lib.hid ho2;clear ho2)
  go_ret
  refine⟨A2,c2,rfl,HO2.out.bytes,((Below.refl _ _).alloc (Nat.le_refl _) _).trans hbel2,hmax,(own_cap HO2.out).1,(own_cap HO2.out).2,fun b off h=>?_⟩
  subst h
  exact(HO2.out.lt b rfl).1
def DataTold2 (l:List Int)(a:Nat)(w:World)(e:Ending)(w':World):Prop:=
 ∃A m c,e= .returned (.tuple #[dataV (bnum l a 1 6 0) (bnum l a 1 6 1) (bnum l a 1 6 2) (bnum l a 1 6 3) (bnum l a 1 6 4) (bnum l a 1 6 5) A m c,.int .i64 (bcode l a 1 6)])∧Below w.heap.size w w'∧Bytes w' A (bpay l a 1 6)∧(bpay l a 1 6).length=m∧Cap w.heap.size A m c
theorem readData_n (A:Option Addr)(l:List Int)(n cap a:Nat)(w:World)(hb:Bytes w A l)(hL:l.length=n)(hn:n≤1000000)(hc:n≤cap)(hcm:cap≤maxLen)(ha:a≤18446744073709551615):
 Calls Tryz.prog 64 #[.slice A n cap,.int .u64 (a:Int)] w (DataTold2 l a w):=by
 have b0:=Lib.hid ((Below.refl w.heap.size w).alloc (Nat.le_refl _) (.cells #[.int .u64 0,.int .u64 0,.int .u64 0,.int .u64 0,.int .u64 0,.int .u64 0,.slice none 0 0] 67))
 have R0:=Lib.hid (Blk.new w [.int .u64 0,.int .u64 0,.int .u64 0,.int .u64 0,.int .u64 0,.int .u64 0,.slice none 0 0] 67)
 have HBo:=Lib.hid (bodyOf_at A l n cap a 6 1 6 (w.alloc (.cells #[.int .u64 0,.int .u64 0,.int .u64 0,.int .u64 0,.int .u64 0,.int .u64 0,.slice none 0 0] 67)) (hb.below b0.out (Nat.le_refl _)) hL hn hc hcm ha (by decide) rfl)
 unfold Bodied at HBo
 have hbn: ∀i,bnum l a 1 6 i=if bcode l a 1 6=0 then u8 (bodyL l a) (8*i)else 0:=fun i=>rfl
 have hbp:bpay l a 1 6=if bcode l a 1 6=0 then(bodyL l a).drop (8*6)else []:=rfl
 unfold DataTold2
 by_cases h1:bcode l a 1 6≠0
 ·rw[if_neg h1]at hbp
  have hn0: ∀i,bnum l a 1 6 i=0:=fun i=>(hbn i).trans (if_neg h1)
  rw[hbp,hn0 0,hn0 1,hn0 2,hn0 3,hn0 4,hn0 5]
  clear hbp hbn hn0 hb hL
  generalize bcode l a 1 6=cd at*
  generalize bodyL l a=bd at*
  go_enter Tryz.func64,Tryz.ntmps64
  go_wp2_with(go_at_call 119;(with_reducible refine HBo.out.mono ?_);rintro e w2 ⟨B,m,cb,rfl,hbel,_⟩;have R2:=Lib.hid (R0.out.below hbel R0.out.lt);have ca0:=R2.out.cell (i:=0) rfl;have ca1:=R2.out.cell (i:=1) rfl;have ca2:=R2.out.cell (i:=2) rfl;have ca3:=R2.out.cell (i:=3) rfl;have ca4:=R2.out.cell (i:=4) rfl;have ca5:=R2.out.cell (i:=5) rfl;have ca6:=R2.out.cell (i:=6) rfl;have fa0:=R2.out.frozen 0;have fa1:=R2.out.frozen 1;have fa2:=R2.out.frozen 2;have fa3:=R2.out.frozen 3;have fa4:=R2.out.frozen 4;have fa5:=R2.out.frozen 5;have fa6:=R2.out.frozen 6;have HB2:=Lib.hid (b0.out.trans (hbel.mono b0.out.size));clear hbel)
  refine bodyPost_ret (v:= .tuple #[dataV 0 0 0 0 0 0 none 0 0,.int .i64 cd]) (by simp[results_cell_tmp Tryz.results64,go_sem,ca0,fa0,ca1,fa1,ca2,fa2,ca3,fa3,ca4,fa4,ca5,fa5,ca6,fa6,Result.andThen]) rfl ⟨none,0,0,rfl,?_,Bytes.nil _ _,rfl,by decide,by decide,by decide,fun b off h=>by cases h⟩
  (repeat (first|(with_reducible exact HB2.out)|refine Below.setCell ?_ (by simp) _|refine Below.alloc ?_ (by simp) _|refine Below.drew ?_|refine below_drewN ?_ _))
 ·have h0:bcode l a 1 6=0:=by omega
  rw[if_pos h0]at hbp
  have hn0: ∀i,bnum l a 1 6 i=u8 (bodyL l a) (8*i):=fun i=>(hbn i).trans (if_pos h0)
  rw[h0]at HBo⊢
  rw[hbp]
  have HNu:=Lib.hid fun(i:Nat) (z:Int) (B:Option Addr) (m cb:Nat) (W:World) (hB:Bytes W B (bodyL l a)) (hm:(bodyL l a).length=m) (hm2:m≤1000000) (hz:z=(i:Int)) (hi:8*i+8≤m)=>hz▸(hn0 i).symm▸number_any B (bodyL l a) m cb i W hB hm hm2 hi
  have HDr:=Lib.hid fun(m:Nat) (hm:(bodyL l a).length=m)=>show((bodyL l a).drop (8*6)).length=m-48 by rw[List.length_drop,hm]
  clear hbp hbn hn0 hb hL h1 h0
  go_enter Tryz.func64,Tryz.ntmps64
  go_upto_region 4 with(go_at_call 119;(with_reducible refine HBo.out.mono ?_);rintro e w2 ⟨B,m,cb,rfl,hbel,hbd⟩)
  have R2:=Lib.hid (R0.out.below hbel R0.out.lt)
  have ca0:=R2.out.cell (i:=0) rfl
  have ca1:=R2.out.cell (i:=1) rfl
  have ca2:=R2.out.cell (i:=2) rfl
  have ca3:=R2.out.cell (i:=3) rfl
  have ca4:=R2.out.cell (i:=4) rfl
  have ca5:=R2.out.cell (i:=5) rfl
  have ca6:=R2.out.cell (i:=6) rfl
  have fa0:=R2.out.frozen 0
  have fa1:=R2.out.frozen 1
  have fa2:=R2.out.frozen 2
  have fa3:=R2.out.frozen 3
  have fa4:=R2.out.frozen 4
  have fa5:=R2.out.frozen 5
  have fa6:=R2.out.frozen 6
  have HB2:=Lib.hid (b0.out.trans (hbel.mono b0.out.size))
  obtain⟨d1,d2,d3,d4,d5,d6⟩:=hbd (by first|rfl|trivial)
  have D1:=Lib.hid d1
  have D2:=Lib.hid d2
  clear d1 d2 hbel hbd
  have hm8:48<m:=by omega
  have hmc:48≤m:=by omega
  have hcut: ∀W:World,(Instr.slice 23 (.slice B m cb) (some (.int .i64 48)) none none).run Tryz.prog W= .ok (.slice (cutA B cb 48) (m-48) (cb-48)) W:=fun W:World=>cut_l B m cb 48 (by omega) W
  have HC:=Lib.hid (Bytes.cut D1.out cb 48 (m-48) (by rw[D2.out];omega))
  rw[List.take_of_length_le (Nat.le_of_eq (by rw[List.length_drop,D2.out]))]at HC
  generalize cutA B cb 48=C at*
  go_region_held3 (fun w'=>True) (first|(with_reducible exact trivial)) (first
   |(go_at_call 120;(first|(with_reducible refine(HNu.out 0 0 _ _ _ _ D1.out.drew D2.out (by omega) rfl (by omega)).mono ?_)|(with_reducible refine(HNu.out 1 1 _ _ _ _ D1.out.drew D2.out (by omega) rfl (by omega)).mono ?_)|(with_reducible refine(HNu.out 2 2 _ _ _ _ D1.out.drew D2.out (by omega) rfl (by omega)).mono ?_)|(with_reducible refine(HNu.out 3 3 _ _ _ _ D1.out.drew D2.out (by omega) rfl (by omega)).mono ?_)|(with_reducible refine(HNu.out 4 4 _ _ _ _ D1.out.drew D2.out (by omega) rfl (by omega)).mono ?_)|(with_reducible refine(HNu.out 5 5 _ _ _ _ D1.out.drew D2.out (by omega) rfl (by omega)).mono ?_));rintro e w' ⟨rfl,rfl⟩)
   |(go_at_call 68;(with_reducible refine(clone_cap C _ (m-48) (cb-48) _ HC.out.drew (by rw[List.length_drop,D2.out]) (by omega)).mono ?_);rintro e w3 ⟨A3,c3,rfl,hb3,hbel3,hcp3⟩;have ho3:=hcp3.2.2.2;have HCP3:=Lib.hid (hcp3.mono HB2.out.size);have HB3:=Lib.hid hb3;have HO3:=Lib.hid (show ∀b off,A3=some ⟨b,off,none⟩→b≠w.heap.size from fun b off e hh=>by have h1:=ho3 b off e;have h2:=R2.out.lt;have h3:w2.drew.heap.size=w2.heap.size:=rfl;omega);have HBel3:=Lib.hid (HB2.out.drew.trans (hbel3.mono HB2.out.size));have R3:=Lib.hid (R2.out.drew.below hbel3 R2.out.lt);have cb0:=R3.out.cell (i:=0) rfl;have cb1:=R3.out.cell (i:=1) rfl;have cb2:=R3.out.cell (i:=2) rfl;have cb3:=R3.out.cell (i:=3) rfl;have cb4:=R3.out.cell (i:=4) rfl;have cb5:=R3.out.cell (i:=5) rfl;have cb6:=R3.out.cell (i:=6) rfl;have fb0:=R3.out.frozen 0;have fb1:=R3.out.frozen 1;have fb2:=R3.out.frozen 2;have fb3:=R3.out.frozen 3;have fb4:=R3.out.frozen 4;have fb5:=R3.out.frozen 5;have fb6:=R3.out.frozen 6;clear hcp3 hb3 hbel3))
  obtain⟨W4,hW4⟩: ∃x,x=(((((((w3.setCell ⟨w.heap.size,0,none⟩ (.int .u64 (bnum l a 1 6 0))).setCell ⟨w.heap.size,1,none⟩ (.int .u64 (bnum l a 1 6 1))).setCell ⟨w.heap.size,2,none⟩ (.int .u64 (bnum l a 1 6 2))).setCell ⟨w.heap.size,3,none⟩ (.int .u64 (bnum l a 1 6 3))).setCell ⟨w.heap.size,4,none⟩ (.int .u64 (bnum l a 1 6 4))).setCell ⟨w.heap.size,5,none⟩ (.int .u64 (bnum l a 1 6 5))).setCell ⟨w.heap.size,6,none⟩ (.slice A3 (m-48) c3)):=⟨_,rfl⟩
  have R4:Hid (Blk W4 w.heap.size [.int .u64 (bnum l a 1 6 0),.int .u64 (bnum l a 1 6 1),.int .u64 (bnum l a 1 6 2),.int .u64 (bnum l a 1 6 3),.int .u64 (bnum l a 1 6 4),.int .u64 (bnum l a 1 6 5),.slice A3 (m-48) c3] 67):=Lib.hid (hW4▸(((((((R3.out.set_ 0 _).set_ 1 _).set_ 2 _).set_ 3 _).set_ 4 _).set_ 5 _).set_ 6 _))
  have HB4:Hid (Below w.heap.size w W4):=Lib.hid (hW4▸(Below.setCell (Below.setCell (Below.setCell (Below.setCell (Below.setCell (Below.setCell (Below.setCell HBel3.out (Nat.le_refl _) _) (Nat.le_refl _) _) (Nat.le_refl _) _) (Nat.le_refl _) _) (Nat.le_refl _) _) (Nat.le_refl _) _) (Nat.le_refl _) _))
  have HY4:Hid (Bytes W4 A3 _):=Lib.hid (hW4▸(bytes_far (bytes_far (bytes_far (bytes_far (bytes_far (bytes_far (bytes_far HB3.out HO3.out _ _) HO3.out _ _) HO3.out _ _) HO3.out _ _) HO3.out _ _) HO3.out _ _) HO3.out _ _))
  rw[←hW4]
  have e0:=R4.out.cell (i:=0) rfl;have e1:=R4.out.cell (i:=1) rfl;have e2:=R4.out.cell (i:=2) rfl;have e3:=R4.out.cell (i:=3) rfl;have e4:=R4.out.cell (i:=4) rfl;have e5:=R4.out.cell (i:=5) rfl;have e6:=R4.out.cell (i:=6) rfl
  clear hW4
  go_wp2
  refine bodyPost_ret (v:= .tuple #[dataV (bnum l a 1 6 0) (bnum l a 1 6 1) (bnum l a 1 6 2) (bnum l a 1 6 3) (bnum l a 1 6 4) (bnum l a 1 6 5) A3 (m-48) c3,.int .i64 0]) (by simp[results_cell_tmp Tryz.results64,go_sem,e0,e1,e2,e3,e4,e5,e6,Result.andThen]) rfl ⟨A3,m-48,c3,rfl,HB4.out,HY4.out,by rw[List.length_drop,D2.out],HCP3.out⟩
end Ok7
end Go.Proofs.YtjecmgkmcfkcjaaGreat
