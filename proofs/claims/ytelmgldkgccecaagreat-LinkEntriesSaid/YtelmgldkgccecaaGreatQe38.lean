/-
  Texts beneath the proof.
-/
import Derived.Test.YtelmgldkgccecaaGreatQe29
import Derived.Test.YtelmgldkgccecaaGreatQe37
import Derived.Test.YtelmgldkgccecaaGreatQe28
import Derived.Test.YtelmgldkgccecaaGreatQe30
import Derived.Test.YtelmgldkgccecaaGreatQe34
import Derived.Test.YtelmgldkgccecaaGreatQe13
set_option linter.unusedVariables false
set_option linter.unusedSimpArgs false
set_option maxRecDepth 100000
set_option maxHeartbeats 16000000
open Go.ChangeShapes Go.WideShapes Go.ChangeAt Go.RowKit
namespace Go.Proofs.YtelmgldkgccecaaGreat
namespace Zh
open Bytes8 Ob Ga Ma Na Nc Za Zb Zc Zd Yp Yh Va Wa
open Rg (arcode)
theorem u8_body {o:O}(hk:o.Ok)(i a:Nat)(hi:i<o.ws.length)(ha:a=8*i):u8 o.body a=o.ws.getD i 0:=by rw[ha];exact body_w hk i hi
theorem read_arr {l hd:List Int}{os:List O}(hl:l=hd++enc os)(hh:hd.length=272)(hok: ∀o∈os,o.Ok){a r:Nat}{g:Nat×Nat}(hs:shp os a=some ⟨6,1+r,[],g⟩)(hr:1≤r):
 ecode l a 6 8 8=0∧arX l a=wd os a 0∧arM l a=r∧ ∀j,j<r→arF (bodyL l a) j=wd os a (1+j):=by
 obtain⟨o,ho,hsh⟩:=shp_some hs
 have ok:=hok o (obj_mem _ _ _ _ ho)
 injection hsh with h1 h2 h3 h4
 obtain⟨c1,c2,c3,c4⟩:=read_at hl hh ho ok
 have hw: ∀j,wd os a j=o.ws.getD j 0:=fun j=>by unfold wd;rw[ho]
 have hbl:o.body.length=8*(1+r):=by rw[O.body_len,h2,h3];simp
 have he:ecode l a 6 8 8=0:=by
  unfold ecode
  rw[if_neg (by omega),c2,h1,if_neg (by decide),c4,hbl,if_neg (by omega)]
 refine⟨he,?_,?_,fun j hj=>?_⟩
 ·unfold arX
  rw[if_pos he,c4,hw]
  exact u8_body ok 0 0 (by omega) rfl
 ·unfold arM arN
  rw[if_pos he,c4,hbl]
  omega
 ·unfold arF
  rw[c4,hw]
  exact u8_body ok (1+j) _ (by omega) (by omega)
abbrev toI (l:List Nat):List Int:=l.map fun(x:Nat)=>(x:Int)
theorem lastI_take {its:List Nat}(hasc:its.Pairwise (· < ·))(hpos: ∀x∈its,0<x)(j:Nat)(hj:j<its.length):lastI (toI (its.take j))<(its[j]:Int):=by
 rcases Nat.eq_zero_or_pos j with h0|h0
 ·subst h0
  have:=hpos its[0] (List.getElem_mem _)
  simp[lastI]
  omega
 ·obtain⟨q,rfl⟩: ∃q,j=q+1:=⟨j-1,by omega⟩
  have h1:toI (its.take (q+1))=toI (its.take q)++ [(its[q]:Int)]:=by
   show(its.take (q+1)).map (fun(x:Nat)=>(x:Int))=(its.take q).map (fun(x:Nat)=>(x:Int))++ [(its[q]:Int)]
   rw[List.take_succ_eq_append_getElem (by omega),List.map_append]
   rfl
  rw[h1,lastI_snoc]
  have:=List.pairwise_iff_getElem.1 hasc q (q+1) (by omega) hj (by omega)
  omega
theorem toI_step (its:List Nat)(j:Nat)(hj:j<its.length):toI (its.take j)++ [(its[j]:Int)]=toI (its.take (j+1)):=by
 show(its.take j).map (fun(x:Nat)=>(x:Int))++ [(its[j]:Int)]=(its.take (j+1)).map (fun(x:Nat)=>(x:Int))
 rw[List.take_succ_eq_append_getElem hj,List.map_append]
 rfl
theorem toI_len (its:List Nat)(j:Nat)(hj:j≤its.length):((toI (its.take j)).length:Int)=(j:Int):=by
 rw[List.length_map,List.length_take];omega
def told (arr its:List Nat)(n na ni:Int):List Int×Int:=if n≤its.length then(toI (its.take n.toNat),0)else(toI its,if its.length=rooms arr.length then na else ni)
theorem told_at {arr its:List Nat}{n na ni:Int}{j:Nat}(hj:j≤its.length)(h:(j:Int)=n):told arr its n na ni=(toI (its.take j),0):=by
 unfold told
 rw[if_pos (by omega),show n.toNat=j by omega]
variable {h : HD} {l hd : List Int} {os : List O} {t : Nat} {arr its : List Nat}
theorem inA_arr (w:ArrW os t arr its)(hasc:its.Pairwise (· < ·)){E:Nat}(hpos: ∀x∈its,0<x∧x<E)(n na ni:Int)(K:List Int→List Int×Int)(g:Nat→Int)(k:Nat)(hk:k<arr.length)
 (hg: ∀j,j<roomN k→g j=wd os arr[k] (1+j))(hK:rooms (k+1)≤its.length→((rooms (k+1):Nat):Int)≤n→K (toI (its.take (rooms (k+1))))=told arr its n na ni)(hKf: ∀o:List Int,(o.length:Int)=n→K o=(o,0)):
 ∀(q j:Nat),q+j=roomN k→rooms k+j≤its.length→((rooms k+j:Nat):Int)≤n→inA K E n ni g q j (toI (its.take (rooms k+j)))=told arr its n na ni:=by
 have hrs:=rooms_succ k
 intro q
 induction q with
 |zero=>
  intro j hj h1 h2
  have e:rooms k+j=rooms (k+1):=by omega
  show K _=_
  rw[e]at h1 h2⊢
  exact hK h1 h2
 |succ q ih=>
  intro j hj h1 h2
  by_cases hn:((rooms k+j:Nat):Int)=n
  ·rw[inA_full _ _ _ _ _ _ _ _ (by rw[toI_len _ _ h1];exact hn) (hKf _ (by rw[toI_len _ _ h1];exact hn))]
   exact(told_at h1 hn).symm
  ·unfold inA
   rw[if_neg (by rw[toI_len _ _ h1];exact hn),hg j (by omega),w.it k hk j (by omega)]
   by_cases hl2:rooms k+j<its.length
   ·have e1:its.getD (rooms k+j) 0=its[rooms k+j]:=by simp[List.getElem?_eq_getElem hl2]
    obtain⟨p1,p2⟩:=hpos its[rooms k+j] (List.getElem_mem _)
    have hlt:=lastI_take hasc (fun x hx=>(hpos x hx).1) (rooms k+j) hl2
    rw[e1,if_neg (by simp[nothB];omega),if_neg (by omega),toI_step its _ hl2]
    exact ih (j+1) (by omega) (by omega) (by omega)
   ·have e0:rooms k+j=its.length:=by omega
    have e1:its.getD (rooms k+j) 0=0:=by simp[List.getElem?_eq_none (Nat.le_of_eq e0.symm)]
    rw[e1,if_pos (by simp[nothB])]
    have hm:=rooms_mono (show k+1≤arr.length by omega)
    unfold told
    rw[if_neg (by omega),if_neg (by omega),e0,List.take_length]
theorem chase_arr (hl:l=hd++enc os)(hh:hd.length=272)(hok: ∀o∈os,o.Ok)(h0:h.N 0=272)(w:ArrW os t arr its)(hasc:its.Pairwise (· < ·))(hpos: ∀x∈its,0<x∧x<l.length)(n na ni:Int):
 ∀(f k last:Nat),k≤arr.length→rooms k≤its.length→((rooms k:Nat):Int)≤n→(k=0→last=0)→(∀hk:0<k,last=arr.getD (k-1) 0)→last≤l.length→l.length+1≤f+last→
  chase h l l.length n na ni f (toI (its.take (rooms k))) (arr.getD k 0) last=told arr its n na ni:=by
 intro f
 induction f with
 |zero=>intro k last _ _ _ _ _ h1 h2;omega
 |succ f ih=>
  intro k last hk hr hn hl0 hlk hle hf
  by_cases hfull:((rooms k:Nat):Int)=n
  ·rw[chase_full _ _ _ _ _ _ _ _ _ _ (by rw[toI_len _ _ hr];exact hfull)]
   exact(told_at hr hfull).symm
  ·unfold chase
   rw[if_neg (by rw[toI_len _ _ hr];exact hfull)]
   by_cases hke:k=arr.length
   ·subst hke
    have e1:arr.getD arr.length 0=0:=by simp
    rw[e1,if_pos (by simp[nothB])]
    have:=w.le
    unfold told
    rw[if_neg (by omega),if_pos (by omega),show rooms arr.length=its.length by omega,List.take_length]
   ·have hklt:k<arr.length:=by omega
    have e1:arr.getD k 0=arr[k]:=by simp[List.getElem?_eq_getElem hklt]
    have hsz:l.length=endO os:=by rw[hl,List.length_append,hh];rfl
    have hb:=shp_lt (w.sh k hklt)
    dsimp only at hb
    have hrb:=roomN_bd k
    have hlast:last<arr[k]:=by
     rcases Nat.eq_zero_or_pos k with h1|h1
     ·rw[hl0 h1];omega
     ·have h2:=List.pairwise_iff_getElem.1 w.asc (k-1) k (by omega) hklt (by omega)
      have h3:=hlk h1
      have e2:arr.getD (k-1) 0=arr[k-1]:=by simp[List.getElem?_eq_getElem (show k-1<arr.length by omega)]
      omega
    obtain⟨r1,r2,r3,r4⟩:=read_arr hl hh hok (w.sh k hklt) (by omega)
    have hrng:h.N 0≤(arr[k]:Int)∧arr[k]<l.length:=by rw[h0];omega
    have ha:arcode h l l.length arr[k]=0:=by unfold arcode;rw[if_pos hrng];exact r1
    have hx:(aX9 h l l.length arr[k]).toNat=arr.getD (k+1) 0:=by
     unfold aX9
     rw[if_pos hrng,r2,w.nx k hklt,Int.toNat_natCast]
    have hc:aC9 h l l.length arr[k]=roomN k:=by unfold aC9;rw[if_pos hrng];exact r3
    rw[e1,if_neg (by simp[nothB];omega),if_neg (by omega),if_neg (by rw[ha];decide),hx,hc]
    refine inA_arr w hasc hpos n na ni _ _ k hklt r4 (fun q1 q2=>?_) (fun o ho=>chase_full _ _ _ _ _ _ _ _ _ _ ho) (roomN k) 0 (by omega) (by omega) (by omega)
    exact ih (k+1) arr[k] (by omega) q1 q2 (fun h=>absurd h (by omega)) (fun _=>by rw[Nat.add_sub_cancel];exact e1.symm) (by omega) (by omega)
end Zh
namespace Zi
open Go1 (hcode magicB)
end Zi
namespace Zk
open Bytes8 Blk8 Ya Ob Ga Ma Mb Mg Na Nc Nh Nl Np Nq Ns Nt Nu Fa Yd Yc Yp Yg Yj Za Zb Zc Zd Ze Zg Zh Zj Pr8 Ps8 Pl8 Rj Rk Rm Rn Rr
open Rd (dcode dz)
open Ri (ecode9)
abbrev W64 (x:Int):Prop:=0≤x∧x≤18446744073709551615
theorem ent_split (s r m:Int)(K:Nat→Int)(x:Int)(ps:List Int):entB s r m K x ps=nums [s,r,m]++(idL K++(nums [x]++nums ps)):=by unfold entB;simp
theorem ent_nums (s r m:Int)(K:Nat→Int)(x:Int)(ps:List Int)(hs:W64 s)(hr:W64 r)(hm:W64 m)(hx:W64 x):
 u8 (entB s r m K x ps) 0=s∧u8 (entB s r m K x ps) 8=r∧u8 (entB s r m K x ps) 16=m∧u8 (entB s r m K x ps) 40=x:=by
 rw[ent_split]
 refine⟨nums_at [s,r,m] _ 0 0 rfl (by simp) hs,nums_at [s,r,m] _ 1 8 rfl (by simp) hr,nums_at [s,r,m] _ 2 16 rfl (by simp) hm,?_⟩
 have h:=u8_app (nums [s,r,m]++idL K) (nums [x]++nums ps) 40 0 (by rw[List.length_append,nums_len];rfl)
 rw[List.append_assoc]at h
 rw[h]
 exact nums_at [x] _ 0 0 rfl (by simp) hx
theorem ent_K (s r m:Int)(K:Nat→Int)(x:Int)(ps:List Int)(i:Nat)(hi:i<16):itK (entB s r m K x ps) i=K i:=by
 unfold itK
 rw[if_pos hi,ent_split,List.getD_eq_getElem?_getD,List.getElem?_append_right (by rw[nums_len];simp),nums_len]
 rw[show 24+i-8* [s,r,m].length=i by simp,List.getElem?_append_left (by simpa [idL]using hi)]
 unfold idL
 rcases i with _|_|_|_|_|_|_|_|_|_|_|_|_|_|_|_|i
 all_goals first|rfl|omega
theorem ent_items (s r m:Int)(K:Nat→Int)(x:Int)(f g:Nat→Int)(n i:Nat)(hi:i<n)(hf:Wd f n)(hg:Wd g n):
 itA (entB s r m K x (prs f g n)) i=f i∧itH (entB s r m K x (prs f g n)) i=g i:=by
 unfold itA itH entB
 have hl:(nums [s,r,m]++idL K++nums [x]).length=48:=by rw[List.length_append,List.length_append,nums_len,nums_len];rfl
 have h:=prs_read f g n i hi hf hg []
 rw[List.append_nil]at h
 rw[u8_app _ _ 48 _ hl,Nat.add_assoc,u8_app _ _ 48 _ hl]
 exact h
theorem xr_perm {l m:List (List Int)}(h:l.Perm m):xr l=xr m:=by
 induction h with
 |nil=>rfl
 |cons x _ ih=>rw[xr_cons,xr_cons,ih]
 |swap x y l=>rw[xr_cons,xr_cons,xr_cons,xr_cons,Nat.xor_assoc,Nat.xor_assoc,Nat.xor_comm (lookN x)]
 |trans _ _ h1 h2=>exact h1.trans h2
theorem risB_of {f:Nat→Int}: ∀ {n:Nat},(∀i,i+1<n→f i<f (i+1))→risB f n=true
 |0,_=>rfl
 |1,_=>rfl
 |n+2,h=>by
  unfold risB
  rw[risB_of (n:=n+1) (fun i hi=>h i (by omega))]
  simpa using h n (by omega)
theorem rowsL_get {who:List Nat}{T:Nat→List Int}{P:Nat→List Int}(h: ∀i (hi:i<who.length),P i=T who[i]):rowsL P who.length=who.map T:=by
 unfold rowsL
 refine List.ext_getElem (by simp) fun i h1 h2=>?_
 rw[List.getElem_map,List.getElem_map,List.getElem_range]
 exact h i (by simpa using h2)
theorem key_is (H:HD)(C:Cf)(hic:H.ic=if C.keyed then 4 else 0)(hI: ∀i,i<16→H.I i=C.F i):keyB H.ic=C.keyed∧idL H.I=Cf.file C:=by
 refine⟨?_,?_⟩
 ·rw[hic]
  cases C.keyed
  ·rfl
  ·rfl
 ·unfold idL Cf.file idL
  rw[hI 0 (by decide),hI 1 (by decide),hI 2 (by decide),hI 3 (by decide),hI 4 (by decide),hI 5 (by decide),hI 6 (by decide),hI 7 (by decide),hI 8 (by decide),hI 9 (by decide),hI 10 (by decide),hI 11 (by decide),hI 12 (by decide),hI 13 (by decide),hI 14 (by decide),hI 15 (by decide)]
theorem data_read {m:Mk}{os:List O}{hs:Nat→List Nat}{mi:List Nat}{es:List (Nat×List Int)}(hH:Hold m os hs mi es){H:HD}{l hd:List Int}(hl:l=hd++enc os)(hh:hd.length=272)(h0:H.N 0=272)(hic:H.ic=if m.C.keyed then 4 else 0)(hI: ∀i,i<16→H.I i=m.C.F i){x:Nat}(hx:x<m.datas.length)(htx:(Mk.kn m x).text≠ []):
 hcode9 H l l.length (Mk.kn m x).at_=0∧bnum l (Mk.kn m x).at_ 1 6 0=Mk.sum m (Mk.kn m x).text∧bpay l (Mk.kn m x).at_ 1 6=(Mk.kn m x).text∧(Mk.kn m x).at_<l.length:=by
 have D:=hH.dat x hx
 rw[kn_at hx]at htx⊢
 generalize m.datas[x]=d at*
 obtain⟨o,ho,hsh⟩:=shp_some D.sh
 have ok:=hH.rep.ok o (obj_mem _ _ _ _ ho)
 injection hsh with h1 h2 h3 h4
 obtain⟨c1,c2,c3,c4⟩:=read_at hl hh ho ok
 have htl:=List.length_pos_iff.2 htx
 have hbl:o.body.length=48+d.text.length:=by rw[O.body_len,h2,h3]
 have hbc:bcode l d.at_ 1 6=0:=by
  unfold bcode
  rw[if_neg (by omega),c2,h1,if_neg (by decide),c4,if_neg (by omega)]
 have hsz:l.length=endO os:=by rw[hl,List.length_append,hh];rfl
 have hlt:=shp_lt D.sh
 dsimp only at hlt
 have h272:272≤d.at_:=hlt.1
 have hnum:bnum l d.at_ 1 6 0=Mk.sum m d.text:=by
  unfold bnum
  rw[if_pos hbc,c4,show 8*0=0 from rfl,u8_body ok 0 0 (by omega) rfl,←D.w0]
  unfold wd
  rw[ho]
 have hpay:bpay l d.at_ 1 6=d.text:=by
  unfold bpay
  rw[if_pos hbc,c4]
  unfold O.body
  rw[List.drop_left' (by rw[nums_len,h2]),h3]
 have hdc:dcode H l l.length d.at_=0:=by
  unfold dcode
  rw[if_pos ⟨by rw[h0];omega,by omega⟩,hbc]
 obtain⟨k1,k2⟩:=key_is H m.C hic hI
 refine⟨?_,hnum,hpay,by omega⟩
 unfold hcode9
 rw[if_neg (by omega),hnum,hpay,k1,k2]
 exact if_pos rfl
theorem rec_read {m:Mk}{rs:List RR}{os:List O}{hs:Nat→List Nat}{mi:List Nat}{es:List (Nat×List Int)}(k:Kept m rs.length os hs mi es)(q:Recs m rs es){H:HD}{l hd:List Int}(hl:l=hd++enc os)(hh:hd.length=272)(h0:H.N 0=272)(hic:H.ic=m.h.ic)(hI: ∀i,i<16→H.I i=m.h.I i)(i:Nat)(hi:i<rs.length):
 rcode H l l.length (mi.getD i 0)=0∧(recP H l l.length (mi.getD i 0)).s=m.h.N 9-rs.length+i+1∧(recP H l l.length (mi.getD i 0)).r=rs[i].2.1∧(recP H l l.length (mi.getD i 0)).m=rs[i].2.2.1∧(∀j,j<16→(recP H l l.length (mi.getD i 0)).K j=rs[i].2.2.2 j)∧(∀x,x∈(recP H l l.length (mi.getD i 0)).pl↔x∈listL rs[i].1):=by
 have hie:i<es.length:=by have:=q.len;omega
 have hat:mi.getD i 0=es[i].1:=by
  rw[←k.ent,List.getD_eq_getElem?_getD,List.getElem?_eq_getElem (by rw[List.length_map];exact hie),List.getElem_map];rfl
 have hbd:=k.bd es[i].1 (by rw[←k.ent];exact List.mem_map.2 ⟨_,List.getElem_mem hie,rfl⟩)
 rw[hat]
 have hE:=k.hold.ent i hie
 obtain⟨who,w1,w2,w3,w4⟩:=q.ent i hi hie
 have hr:=q.ok rs[i] (List.getElem_mem hi)
 have hb1:=q.base
 have hb2:=q.top
 have hic2:H.ic=if m.C.keyed then 4 else 0:=hic.trans q.ic
 have hI2: ∀i,i<16→H.I i=m.C.F i:=fun i hi=>(hI i hi).trans (q.I i hi)
 generalize rs[i]=r at*
 obtain⟨L,real,mono,K⟩:=r
 obtain⟨r1,r2,r3,r4,r5⟩:=hr
 dsimp only at r1 r2 r3 r4 r5 w3 w4⊢
 have hsq:W64 (m.h.N 9-(rs.length:Int)+(i:Int)+1):=⟨by omega,by omega⟩
 have hsq0:m.h.N 9-(rs.length:Int)+(i:Int)+1≠0:=by omega
 generalize m.h.N 9-(rs.length:Int)+(i:Int)+1=sq at*
 generalize es[i]=e at*
 obtain⟨a,body⟩:=e
 dsimp only at hE hbd w4⊢
 obtain⟨n16,hok⟩:=list_ok r1
 have hpos:listL L≠ []:=by
  unfold listL
  rw[if_pos r1]
  have hL:L≠ []:=fun h=>by unfold listE at r1;rw[if_pos h]at r1;cases r1
  obtain⟨y,hy⟩:=List.exists_mem_of_ne_nil _ hL
  exact List.ne_nil_of_mem ((sortP_mem _ y).2 ((ded_mem L y).2 hy))
 have hwl:who.length=(listL L).length:=by have:=w3.length_eq;rwa[List.length_map,List.length_map]at this
 have hw0:0<who.length:=by rw[hwl];exact List.length_pos_iff.2 hpos
 have htext: ∀x∈who,∃p∈listL L,(Mk.kn m x).text=pay p.1 p.2∧flawI p.1 p.2=0:=fun x hx=>by
  obtain⟨p,hp,e⟩:=List.mem_map.1 (w3.mem_iff.1 (List.mem_map.2 ⟨x,hx,rfl⟩))
  exact⟨p,hp,e.symm,(hok p hp).2⟩
 have hne: ∀x∈who,(Mk.kn m x).text≠ []:=fun x hx=>by
  obtain⟨p,_,e,_⟩:=htext x hx
  rw[e];unfold pay;simp
 have hrd: ∀x∈who,_:=fun x hx=>data_read k.hold hl hh h0 hic2 hI2 (w1 x hx) (hne x hx)
 have hsz:l.length=endO os:=by rw[hl,List.length_append,hh];rfl
 have hbs:=k.hold.rep.size
 have hmax:=k.good.img.len
 have hf:Wd (fun i=>((Mk.kn m (who.getD i 0)).at_:Int)) who.length:=fun j hj=>by
  have:=(hrd _ (List.getElem_mem hj)).2.2.2
  rw[←getD_lt hj]at this
  dsimp only
  omega
 have hg:Wd (fun i=>Mk.sum m (Mk.kn m (who.getD i 0)).text) who.length:=fun j hj=>by
  have D:=k.hold.dat _ (w1 _ (List.getElem_mem hj))
  have h2:=wd_bd k.hold.rep (a:=(m.datas[who[j]]'(w1 _ (List.getElem_mem hj))).at_) (j:=0)
  rw[D.w0]at h2
  dsimp only
  rw[getD_lt hj,kn_at (w1 _ (List.getElem_mem hj))]
  exact h2
 have hX:W64 ((xr ((listL L).map fun q=>pay q.1 q.2):Nat):Int):=by
  have:=xr_lt ((listL L).map fun q=>pay q.1 q.2)
  exact⟨by omega,by omega⟩
 obtain⟨o,ho,hsh⟩:=shp_some hE
 have ok:=k.hold.rep.ok o (obj_mem _ _ _ _ ho)
 injection hsh with h1 h2 h3 h4
 obtain⟨c1,c2,c3,c4⟩:=read_at hl hh ho ok
 have hob:o.body=body:=by
  unfold O.body
  rw[List.eq_nil_of_length_eq_zero h2,h3]
  rfl
 rw[hob]at c3 c4
 have hbl:body.length=48+16*who.length:=by rw[w4,entB_len]
 obtain⟨n0,n8,n16',n40⟩:=ent_nums sq real mono K _ (prs (fun i=>((Mk.kn m (who.getD i 0)).at_:Int)) (fun i=>Mk.sum m (Mk.kn m (who.getD i 0)).text) who.length) hsq r3 r4 hX
 have hit:=fun j hj=>ent_items sq real mono K ((xr ((listL L).map fun q=>pay q.1 q.2):Nat):Int) (fun i=>((Mk.kn m (who.getD i 0)).at_:Int)) (fun i=>Mk.sum m (Mk.kn m (who.getD i 0)).text) who.length j hj hf hg
 have hKK:=fun j hj=>ent_K sq real mono K ((xr ((listL L).map fun q=>pay q.1 q.2):Nat):Int) (prs (fun i=>((Mk.kn m (who.getD i 0)).at_:Int)) (fun i=>Mk.sum m (Mk.kn m (who.getD i 0)).text) who.length) j hj
 rw[←w4]at n0 n8 n16' n40 hit hKK
 have hN:itN body=who.length:=by unfold itN;omega
 have hris:risB (itA body) who.length=true:=by
  rw[risB_cong (fun j hj=>(hit j hj).1)]
  refine risB_of fun j hj=>?_
  have h5:=List.pairwise_iff_getElem.1 w2 j (j+1) (by omega) (by omega) (by omega)
  try dsimp only
  rw[getD_lt (by omega),getD_lt (by omega)]
  omega
 have hec:ecode l a 3 48 16=0:=by
  unfold ecode
  rw[if_neg (by omega),c2,h1,if_neg (by decide),c4,hbl,if_neg (by omega)]
 have hcode:entC0 l a=0:=by
  unfold entC0
  rw[if_neg (by omega),c4,n0,if_neg hsq0,hN,hris]
  rfl
 obtain⟨t1,t2,t3⟩:=told_yes hcode
 rw[c4]at t2 t3
 have hec9:ecode9 H l l.length a=0:=by
  unfold ecode9
  rw[if_pos ⟨by rw[h0];omega,by omega⟩,hcode]
 have hP: ∀j (hj:j<who.length),payP l (itA body) j=(Mk.kn m who[j]).text:=fun j hj=>by
  show bpay l (itA body j).toNat 1 6=_
  rw[(hit j hj).1]
  try dsimp only
  rw[getD_lt hj,Int.toNat_natCast]
  exact(hrd _ (List.getElem_mem hj)).2.2.1
 have hrows:rowsL (payP l (itA body)) who.length=who.map fun x=>(Mk.kn m x).text:=rowsL_get hP
 have hic0: ∀j,j<who.length→icode H l l.length (itA body) (itH body) j=0:=fun j hj=>by
  obtain⟨p1,p2,p3,p4⟩:=hrd _ (List.getElem_mem hj)
  have e1:itA body j=((Mk.kn m who[j]).at_:Int):=by rw[(hit j hj).1];(try dsimp only);rw[getD_lt hj]
  have e2:itH body j=Mk.sum m (Mk.kn m who[j]).text:=by rw[(hit j hj).2];(try dsimp only);rw[getD_lt hj]
  rw[icode_split e1 p1 (p2.trans e2.symm),p3]
  obtain⟨p,_,e,fl⟩:=htext _ (List.getElem_mem hj)
  rw[e]
  exact(split_pay fl).1
 have hrc:rcode H l l.length a=0:=by
  unfold rcode
  rw[t3,hN,c4]
  refine(rc_of H l l.length _ who.length (itA body) (itH body) _).e hec9 (by omega) hic0 ?_
  rw[t1,c4,n40,hrows,xr_perm w3]
 unfold recP
 rw[if_pos hrc]
 refine⟨hrc,?_,?_,?_,fun j hj=>?_,fun x=>?_⟩
 ·show eNum l a 0=sq;rw[t1,c4,n0]
 ·show eNum l a 8=real;rw[t1,c4,n8]
 ·show eNum l a 16=mono;rw[t1,c4,n16']
 ·show eK l a j=K j;rw[t2];exact hKK j hj
 ·show x∈prsL (payP l (itA (bodyL l a))) (eN l a)↔_
  rw[t3,hN,c4]
  have hpl:prsL (payP l (itA body)) who.length=(who.map fun x=>(Mk.kn m x).text).map fun t=>(splitN t,splitV t):=by
   rw[←hrows]
   unfold prsL rowsL
   rw[List.map_map]
   rfl
  rw[hpl]
  constructor
  ·intro hx
   obtain⟨t,ht,e⟩:=List.mem_map.1 hx
   obtain⟨p,hp,e2⟩:=List.mem_map.1 (w3.mem_iff.1 ht)
   obtain⟨_,s2,s3⟩:=split_pay (hok p hp).2
   rw[←e,←e2]
   try dsimp only
   rw[s2,s3]
   exact hp
  ·intro hx
   obtain⟨_,s2,s3⟩:=split_pay (hok x hx).2
   refine List.mem_map.2 ⟨pay x.1 x.2,w3.mem_iff.2 (List.mem_map.2 ⟨x,hx,rfl⟩),?_⟩
   rw[s2,s3]
end Zk
namespace Zl
open Bytes8 Ga Gb Gf Gj Gm Ma Mb Mh Na Nc Nt Za Zb Zd Zg Wa Zh Zj Zk Rn Rr Pl8
open Go1 (hcode magicB)
def stH (m:Mk)(st:Int):HD:=HD.plus (Mk.head m st) (m.depth:Int)
def stL (m:Mk)(st:Int):List Int:=(stH m st).bytes 21++m.b.drop 272
theorem stH_N (m:Mk)(st:Int)(i:Nat)(hi:i<20):(stH m st).N i=if i=1 then(m.b.length:Int)-272 else m.h.N i:=imgH_N m i hi
theorem st_ok {m:Mk}(h:Img m){st:Int}(hs:0≤st∧st≤2):(stH m st).Ok 21:=by
 have k:=imgH_ok h
 exact {cp:=k.cp,ic:=k.ic,st:=by show -9223372036854775808≤st∧st≤9223372036854775807;omega,I:=k.I,ta:=k.ta,ti:=k.ti,te:=k.te,N:=k.N}
theorem st_head {m:Mk}(h:Img m){st:Int}(hs:0≤st∧st≤2):(Mk.head m st).Ok 20:=by
 have k:=head_ok h
 exact {cp:=k.cp,ic:=k.ic,st:=by show -9223372036854775808≤st∧st≤9223372036854775807;omega,I:=k.I,ta:=k.ta,ti:=k.ti,te:=k.te,N:=k.N}
theorem st_len {m:Mk}(h:Img m)(st:Int):(stL m st).length=m.b.length:=by
 have:=h.lens
 unfold stL
 rw[List.length_append,HD.bytes_len,List.length_drop]
 omega
theorem st_says {m:Mk}(h:Img m){st:Int}(hs:0≤st∧st≤2):Says (hdOf (stL m st)) (stH m st):=
 hd_back (stH m st) (st_ok h hs) (by show 0≤st∧st<256;omega) (m.b.drop 272)
theorem st_fcode {m:Mk}(h:Img m){st:Int}(hs:0≤st∧st≤2)(N:Int):fcode (stH m st) N=fcode (imgH m) N:=by
 have e: ∀i,(stH m st).N i=(imgH m).N i:=fun i=>rfl
 have e2:stB (stH m st).st=stB (imgH m).st:=by
  show stB st=stB 1
  have:st=0∨st=1∨st=2:=by omega
  rcases this with h|h|h<;>subst h<;>rfl
 unfold fcode endV endB
 rw[e2]
 rfl
theorem st_hcode {m:Mk}(h:Img m){st:Int}(hs:0≤st∧st≤2):hcode (stL m st) m.b.length=0:=by
 have hl:=h.lens
 unfold hcode
 rw[if_neg (by omega),show magicB (stL m st)=true from magic_back _ _ _,if_neg (by simp),(st_says h hs).fcode,st_fcode h hs,img_fcode h _ (by omega)]
theorem st_end {m:Mk}(h:Img m){st:Int}(hs:0≤st∧st≤2):endV (hdOf (stL m st))=(m.b.length:Int)∧endB (hdOf (stL m st))=true:=by
 have s:=st_says h hs
 have e0:=(s.N 0 (by decide)).trans (stH_N m st 0 (by decide))
 have e1:=(s.N 1 (by decide)).trans (stH_N m st 1 (by decide))
 obtain⟨l1,l2,l3⟩:=h.lens
 rw[if_neg (by decide),h.hg.n0]at e0
 rw[if_pos rfl]at e1
 unfold endV endB
 rw[e0,e1]
 constructor
 ·split<;>omega
 ·simp;omega
theorem st_chase {m:Mk}{n0:Nat}{os:List O}{hs:Nat→List Nat}{mi:List Nat}{es:List (Nat×List Int)}(k:Kept m n0 os hs mi es){st:Int}(ht:0≤st∧st≤2):
 chase (hdOf (stL m st)) (stL m st) m.b.length ((hdOf (stL m st)).N 8) 14 2 (m.b.length+1) [] ((hdOf (stL m st)).N 11).toNat 0=(toI mi,0)∧(hdOf (stL m st)).N 8=(n0:Int):=by
 have hI:=k.good.img
 have s:=st_says hI ht
 have hL:=st_len hI st
 have e0:=(s.N 0 (by decide)).trans (stH_N m st 0 (by decide))
 rw[if_neg (by decide),hI.hg.n0]at e0
 have e8:=(s.N 8 (by decide)).trans (stH_N m st 8 (by decide))
 rw[if_neg (by decide),k.n8]at e8
 have e11:=(s.N 11 (by decide)).trans (stH_N m st 11 (by decide))
 rw[if_neg (by decide),k.n11]at e11
 refine⟨?_,e8⟩
 rw[e8,e11,Int.toNat_natCast]
 have hl:stL m st=(stH m st).bytes 21++enc os:=by unfold stL;rw[k.hold.rep.rep.eq]
 have q:=chase_arr (h:=hdOf (stL m st)) hl (by rw[HD.bytes_len]) k.hold.rep.ok e0 k.hold.mn k.rise (fun x hx=>by have:=k.bd x hx;rw[hL];omega) (n0:Int) 14 2 (m.b.length+1) 0 0 (Nat.zero_le _) (Nat.zero_le _) (by show((0:Nat):Int)≤_;omega) (fun _=>rfl) (fun h=>absurd h (by decide)) (Nat.zero_le _) (by rw[hL];omega)
 rw[hL]at q
 have e:m.main.getD 0 0=m.main.headD 0:=by cases m.main<;>rfl
 rw[e]at q
 refine Eq.trans q ?_
 unfold told
 rw[if_pos (by have:=k.len;omega),Int.toNat_natCast,List.take_of_length_le (by have:=k.len;omega)]
theorem st_rec {m:Mk}{rs:List RR}{os:List O}{hs:Nat→List Nat}{mi:List Nat}{es:List (Nat×List Int)}(k:Kept m rs.length os hs mi es)(q:Recs m rs es){st:Int}(ht:0≤st∧st≤2)(i:Nat)(hi:i<rs.length):
 rcode (hdOf (stL m st)) (stL m st) m.b.length (mi.getD i 0)=0∧(recP (hdOf (stL m st)) (stL m st) m.b.length (mi.getD i 0)).s=m.h.N 9-rs.length+i+1∧(recP (hdOf (stL m st)) (stL m st) m.b.length (mi.getD i 0)).r=rs[i].2.1∧(recP (hdOf (stL m st)) (stL m st) m.b.length (mi.getD i 0)).m=rs[i].2.2.1∧(∀j,j<16→(recP (hdOf (stL m st)) (stL m st) m.b.length (mi.getD i 0)).K j=rs[i].2.2.2 j)∧(∀x,x∈(recP (hdOf (stL m st)) (stL m st) m.b.length (mi.getD i 0)).pl↔x∈listL rs[i].1):=by
 have hI:=k.good.img
 have s:=st_says hI ht
 have hL:=st_len hI st
 have e0:=(s.N 0 (by decide)).trans (stH_N m st 0 (by decide))
 rw[if_neg (by decide),hI.hg.n0]at e0
 have hl:stL m st=(stH m st).bytes 21++enc os:=by unfold stL;rw[k.hold.rep.rep.eq]
 have r:=rec_read k q (H:=hdOf (stL m st)) hl (by rw[HD.bytes_len]) e0 s.ic (fun i hi=>s.I i (by omega)) i hi
 rw[hL]at r
 exact r
end Zl
namespace LinkEntriesW
open Bytes8 Blk8 Own8 OwnM OwnE Rows2 Od Ga Gb Gj Ma Mb Mh Na Np Nr Ns Nt Nu Rc Rn Rp Rr Wa Ls Pr8 Ps8 Pl8 Zg Zh Zj Zl Zs Zt Seq8 Kf
open Go1 (hcode HTold)
open Lk (first_link)
theorem toI_get (l:List Nat)(x:Nat):(toI l).getD x 0=((l.getD x 0:Nat):Int):=by
 rw[List.getD_eq_getElem?_getD,List.getD_eq_getElem?_getD,List.getElem?_map]
 cases l[x]? <;>rfl
theorem list_mem {L:List PR}(h:listE L=0)(x:PR):x∈listL L↔x∈L:=by
 unfold listL
 rw[if_pos h,sortP_mem,ded_mem]
attribute [local irreducible] HD.cells wpList Code.wp
theorem walk_main (a:Option Addr)(len cap:Nat)(f:Nat→Int)(w:World)(hI:InInts .i64 w a len f)(hl:len≤300):
 Calls Tryz.prog 9 #[.slice a len cap] w fun e w'=>e= .returned (.bool true)∧Below w.heap.size w w':=by
 have d1:decide ((300:Int)<(len:Int))=false:=by simp;omega
 have HI:=Lib.hid hI
 clear hI
 go_enter Tryz.func9,Tryz.ntmps9
 go_upto_region 6 with(go_at_call 45;((with_reducible refine(first_link _).mono ?_);rintro e w1 ⟨rfl,hb1⟩;have B1:=Lib.hid hb1;clear hb1))
 clear d1
 have HI1:=Lib.hid (HI.out.below B1.out)
 have Q1:=Lib.hid (show SeqIn (w1.alloc (.cells #[.slice a len cap,.int .i64 0] 53)) w1.heap.size a len cap f 0 from⟨Blk.new w1 [.slice a len cap,.int .i64 0] _,HI1.out.below ((Below.refl _ _).alloc (Nat.le_refl _) _),fun h0 b off e=>by obtain⟨b',off',e',h1,_⟩:=HI1.out 0 h0;rw[e]at e';injection e' with e';injection e' with e';omega,Nat.zero_le _,by omega⟩)
 have b1:=Lib.hid ((Below.refl w1.heap.size w1).alloc (Nat.le_refl _) (.cells #[.slice a len cap,.int .i64 0] 53))
 have HM:=Lib.hid (makerR_any w1.heap.size a len cap f 0 30 _ Q1.out (by decide))
 unfold MadeR at HM
 go_upto_region 7 with(first
  |(go_at_call 23;(refine HM.out.mono ?_);rintro e w2 ⟨g,A,n,c,B,p,m,rs,xs,b0,rfl,hB,hat,hgd,hk,hrw,hrc,hrl,hn9,hro⟩;have HA:=Lib.hid hat;have HG:=Lib.hid hgd;have HK:=Lib.hid hk;have HRw:=Lib.hid hrw;have HRc:=Lib.hid hrc;have HRl:=Lib.hid hrl;have HN9:=Lib.hid hn9;have HRo:=Lib.hid hro;clear hat hgd hk hrw hrc hrl hn9 hro)
  |fail)
 have hI:=HG.out.img
 obtain⟨l1,l2,l3⟩:=hI.lens
 have hn30:=HG.out.le
 obtain⟨os,hs,mi,es,hkept,hrecs⟩:=kept_recs HRc.out
 have HMl:=Lib.hid (show mi.length=n by rw[hkept.len,HRl.out])
 have ht:(0:Int)≤2∧(2:Int)≤2:=by decide
 have HIm:=Lib.hid (image_any B g p.bb p.cb p.S m 2 w2 HA.out.st (by omega) (st_head hI ht) (by have:=hI.inv.dep;omega))
 unfold Owned at HIm
 obtain⟨E,hE⟩: ∃E,m.b.length=E:=⟨_,rfl⟩
 have hlen:=st_len hI 2
 have hz:=st_hcode hI ht
 obtain⟨he1,he2⟩:=st_end hI ht
 obtain⟨hch,hh8⟩:=st_chase hkept ht
 have hsr:=fun i hi=>st_rec hkept hrecs ht i hi
 have hsl:(HD.plus (Mk.head m 2) (m.depth:Int)).bytes 21++m.b.drop 272=stL m 2:=rfl
 rw[hsl]at HIm
 have hE0:E≤300000:=by omega
 rw[hE]at hlen hz he1 hch hsr HIm
 generalize stL m 2=l at*
 have HOp:=Lib.hid fun(A:Option Addr) (c:Nat) (W:World) (hb:Bytes W A l) (hc:E≤c)=>by
  have k:=open_fine l A E c W hb hlen (by omega) hc hz E he1 he2 (Nat.le_refl _) (hdOf_ok hb.1 21)
  unfold Opened at k
  rw[List.take_of_length_le (by omega)]at k
  exact k
 have HEn:=Lib.hid fun(W:World) (gv:Nat) (A:Option Addr) (c:Nat) (v:ViewAt W gv (hdOf l) A E c l) (hc:c≤maxLen) (hA:AllB l)=>by
  have k:=Wl.entries_any W v hc (by omega) (by omega) hA (hdOf_ok hA 21)
  rw[hch]at k
  exact k
 unfold TellL at HEn
 have HRec:=Lib.hid fun(x:Nat) (hx:x<rs.length) (W:World) (gv:Nat) (A:Option Addr) (c:Nat) (v:ViewAt W gv (hdOf l) A E c l) (hc:c≤maxLen)=>show Calls Tryz.prog 27 #[.pointer (some ⟨gv,0,none⟩),.int .u64 ((mi.getD x 0:Nat):Int)] W fun e w'=> ∃F c k pl,e= .returned (.tuple #[.agg (recL (b0+x+1) rs[x].2.1 rs[x].2.2.1 rs[x].2.2.2 (.slice F k c)).toArray,.int .i64 0])∧pl.length=k∧k≤1000000∧Prs w' F pl∧(∀y,y∈pl↔y∈rs[x].1)∧Below W.heap.size W w' from by
  refine(recTell (mi.getD x 0) W v hc (by omega)).mono ?_
  rintro e w' ⟨F,c2,rfl,hp,hb⟩
  obtain⟨s1,s2,s3,s4,s5,s6⟩:=hsr x hx
  have hok:=recP_ok (hdOf l) E (mi.getD x 0) v.by_.1
  refine⟨F,c2,_,_,?_,hok.len,hok.n,hp,fun y=>(s6 y).trans (list_mem (hrecs.ok _ (List.getElem_mem hx)).list y),hb⟩
  unfold RecP.v
  rw[s1,s2,s3,s4,recL_cong s5,show m.h.N 9-(rs.length:Int)+(x:Int)+1=b0+x+1 by have h1:=HN9.out;have h2:=HRl.out;omega]
 have hmU:=Lib.hid (show ∀y∈toI mi,0≤y∧y≤18446744073709551615 from fun y hy=>by
  obtain⟨q,hq,rfl⟩:=List.mem_map.1 hy
  have:=hkept.bd q hq
  omega)
 have HSc:=Lib.hid fun(y:Nat×Nat) (hy:y.1<rs.length)=>hrecs.ok _ (List.getElem_mem hy)
 have HH8:=Lib.hid (hh8.trans (by rw[HRl.out]))
 have B2:=Lib.hid (B1.out.trans ((b1.out.trans (KeptB.below (HK.out.mono b1.out.size) (Nat.le_refl _))).mono B1.out.size))
 clear Q1 HM b1 HI HI1 hsl hlen hz he1 he2 hch hh8 hsr hI hkept hrecs HRc HN9 HG HK l1 l2 l3 ht HA
 go_upto_region 8 with(first
  |(go_at_call 24;(refine HIm.out.mono ?_);rintro e w3 ⟨A3,c3,rfl,ho3,hb3⟩;have HO3:=Lib.hid ho3.bytes;have HC3:=Lib.hid (own_cap ho3);have B3:=Lib.hid hb3;clear ho3 hb3)
  |(go_at_call 14;(refine(HOp.out _ _ _ HO3.out HC3.out.1).mono ?_);rintro e w4 ⟨gv,A9,c9,rfl,_,hv,hc9,hb4⟩;have HV:=Lib.hid hv;have HC9:=Lib.hid hc9;have B4:=Lib.hid (B3.out.trans (hb4.mono B3.out.size));clear hv hb4 hc9)
  |fail)
 have HAB:=Lib.hid HV.out.by_.1
 have HE9:=Lib.hid (HEn.out w4 gv A9 c9 HV.out HC9.out HAB.out)
 have HRo4:=Lib.hid (HRo.out.step (KeptF.of_below (F:=fun _=>False) B4.out) (fun _ _ h=>h.elim) (fun _ _ h=>h) (fun _ _ h=>h))
 have HRw4:=Lib.hid (HRw.out.own.kept B4.out (Nat.le_refl _))
 clear HIm HOp HEn HRo HRw HO3 HC3
 go_upto_region 11 with(first
  |(go_at_call 46;(refine HE9.out.mono ?_);rintro e w5 ⟨hb5,A5,m5,c5,rfl,ho5,hl5⟩;have B5:=Lib.hid hb5;have O5:=Lib.hid ho5;have L5:=Lib.hid hl5;clear hb5 ho5 hl5)
  |fail)
 have hm5:m5=n:=by have h1:=L5.out;have h2:=HMl.out;rw[List.length_map]at h1;omega
 subst hm5
 have HHd:=Lib.hid (vhead_any w5 ((HV.out.below B5.out).blk))
 have hwn:IntKind.u64.wrap (m5:Int)=(m5:Int):=by rw[IntKind.wrap_u64];omega
 have hfd:=fun W=>head_field (hdOf l) W
 rw[HH8.out]at hfd
 generalize hdOf l=H at*
 go_upto_region 13 with(first
  |(go_at_call 25;(refine HHd.out.mono ?_);rintro e w6 ⟨rfl,hb6⟩;have B6:=Lib.hid (B5.out.trans (hb6.mono B5.out.size));have hb56:=Lib.hid hb6;clear hb6)
  |fail)
 go_upto_region 14 with fail
 have S6:=Lib.hid (Below.refl w6.heap.size w6)
 have HV6:=Lib.hid (HV.out.below B6.out)
 have HRo6:=Lib.hid (HRo4.out.step (KeptF.of_below (F:=fun _=>False) B6.out) (fun _ _ h=>h.elim) (fun _ _ h=>h) (fun _ _ h=>h))
 have HRw6:=Lib.hid (HRw4.out.kept B6.out (Nat.le_refl _))
 have BB:=Lib.hid (B2.out.trans ((B4.out.trans (B6.out.mono B4.out.size)).mono B2.out.size))
 have HU: ∀y∈toI mi,0≤y∧y≤18446744073709551615:=hmU.out
 have HI5:=Lib.hid ((tell_ints O5.out L5.out HU).below (w':=w6) hb56.out)
 clear HE9 HHd hfd HRo4 HRw4 HU O5 L5 hwn
 go_loopw [10] (fun i wr=> ∃x:Nat,x≤m5∧i= .int .i64 (x:Int)∧Hid (Below w6.heap.size w6 wr)) (fun i _=>m5-Rn.natOf i)
 case atStart=>exact⟨0,Nat.zero_le _,rfl,S6⟩
 case round=>
  obtain⟨x,hx,rfl,hbr⟩:=hrel
  by_cases hlt:x<m5
  ·have dd1:decide ((x:Int)<(m5:Int))=true:=by simp;omega
   have hxi:(x:Int)<(m5:Int):=by omega
   have hwx:IntKind.i64.wrap ((x:Int)+1)=((x+1:Nat):Int):=by rw[IntKind.wrap_i64];omega
   have hxr:x<rs.length:=by rw[HRl.out];exact hlt
   obtain⟨bA,oA,rfl,hbA,hcA,_⟩:=(HI5.out.below hbr.out) x hlt
   dsimp only at hcA
   rw[show(toI mi).getD x 0=((mi.getD x 0:Nat):Int)from toI_get mi x]at hcA
   have HR1:=Lib.hid (HRec.out x hxr wr gv A9 c9 (HV6.out.below hbr.out) HC9.out)
   obtain⟨Ar,nr,cr,e1,e2,e3,e4,_⟩:=HRo6.out.at_ x hxr
   have hxl:=HRo6.out.len
   obtain⟨bR,rfl,_,hbR,_⟩:=HRw6.out.cell (i:=20*x) (by omega)
   have HRg:=Lib.hid (show w6.rangeAt bR (x*20) (recL (b0+x+1) rs[x].2.1 rs[x].2.2.1 rs[x].2.2.2 (.slice Ar nr cr))from fun j v hj=>by
    rw[←e1]at hj
    rw[Nat.mul_comm x 20]
    have hj2:j<20:=by
     have:=(List.getElem?_eq_some_iff.1 hj).1
     rw[List.length_take]at this;omega
    rw[List.getElem?_take_of_lt hj2,List.getElem?_drop]at hj
    obtain⟨b2,h1,_,_,h2⟩:=HRw6.out.cell (i:=20*x+j) (List.getElem?_eq_some_iff.1 hj).1
    injection h1 with h1
    injection h1 with h1
    subst h1
    exact h2.trans hj)
   have HPA:=Lib.hid e4
   have HAn:=Lib.hid (⟨e2,e3⟩:rs[x].1.length=nr∧nr≤16)
   have HKk:=Lib.hid (HSc.out (x,0) hxr).K
   dsimp only at HKk
   generalize hsq:b0+(x:Int)+1=sq at*
   generalize rs[x]=r at*
   obtain⟨L,real,mono,K⟩:=r
   dsimp only at*
   clear e1 e2 e3 e4 hsq
   go_upto_region 17 with(first
    |(go_at_call 27;(refine HR1.out.mono ?_);rintro e w7 ⟨F,cc,kk,pl,rfl,hpl,hkk,hF,hmem,hb7⟩;have HF7:=Lib.hid hF;have B7:=Lib.hid (hbr.out.trans (hb7.mono hbr.out.size));have HPl:=Lib.hid (⟨hpl,hkk,hmem⟩:pl.length=kk∧kk≤1000000∧ ∀y,y∈pl↔y∈L);clear hF hb7 hpl hkk hmem)
    |((with_reducible apply at_store (.tmp 11) (.tmp 75));refine wpList_store_row rfl 67 (.tmp 11) (.tmp 75) rfl w7.heap.size (recL sq real mono K (.slice F kk cc)).toArray rfl rfl 67 zR (heap_alloc_new w7 _) (recInfo _ _ _ _ _) rfl (by simp[Value.oneCell']) ?_)
    |fail)
   have R8:=Lib.hid (show Blk ((w7.alloc (.cells zR 67)).setRow w7.heap.size (recL sq real mono K (.slice F kk cc)).toArray) w7.heap.size (recL sq real mono K (.slice F kk cc)) 67 from setRow_heap _ _ _ _ _ (0,0) (heap_alloc_new w7 _))
   have B8:=Lib.hid (show Below w7.heap.size w7 ((w7.alloc (.cells zR 67)).setRow w7.heap.size (recL sq real mono K (.slice F kk cc)).toArray)from below_setRow ((Below.refl _ _).alloc (Nat.le_refl _) _) (Nat.le_refl _) _)
   generalize (w7.alloc (.cells zR 67)).setRow w7.heap.size (recL sq real mono K (.slice F kk cc)).toArray=w8 at*
   have B68:=Lib.hid (B7.out.trans (B8.out.mono B7.out.size))
   have hlt7:=R8.out.lt
   have HF8:=Lib.hid (HF7.out.below B8.out)
   generalize w7.heap.size=s7 at*
   have D8:=Lib.hid (show Below w8.heap.size w8 w8.drew from(Below.refl w8.heap.size w8).drew)
   have HS:=Lib.hid fun(W:World) (hW:Below w8.heap.size w8 W)=>show W.rangeAt s7 0 (recL sq real mono K (.slice F kk cc))∧W.rangeAt bR (x*20) (recL sq real mono K (.slice Ar nr cr))from
    ⟨fun j v hj=>by rw[Nat.zero_add];exact(R8.out.below hW hlt7).cell hj,fun j v hj=>(World.cell?_of_block (a:=⟨bR,x*20+j,none⟩) (((hW.block bR (Nat.lt_of_lt_of_le hbR B68.out.size)).trans (B68.out.block bR hbR)))).trans (HRg.out j v hj)⟩
   have HSm:=Lib.hid fun(W:World) (hW:Below w8.heap.size w8 W)=>samerow_yes sq real mono K HKk.out F Ar kk nr cc cr pl L W (HF8.out.below hW) ((HPA.out.below B68.out).below hW) HPl.out.1 HAn.out.1 HPl.out.2.1 (by have:=HAn.out.2;omega) HPl.out.2.2
   have hw20:((x:Int)).toNat*20=20*x:=by omega
   refine wp_region_noPanic ?_
   refine wp_region_held_drew (S:=fun W:World=>W.rangeAt s7 0 (recL sq real mono K (.slice F kk cc))∧W.rangeAt bR (x*20) (recL sq real mono K (.slice Ar nr cr))) (by kernel_rfl) (by exact HS.out _ D8.out) (fun hHeld=>?_)
   refine tk (i:=0) (oi:=⟨some 77,_,_,_,_,_⟩) (v:=?_) rfl (Or.inl ⟨by rfl,?_⟩) ?_
   rotate_left
   ·intro W hSw;go_simp;try (with_reducible rfl)
   try simp only[Act.put,sA,sZ,sS]
   refine tk (i:=1) (oi:=⟨some 78,_,_,_,_,_⟩) (v:=?_) rfl (Or.inl ⟨by rfl,?_⟩) ?_
   rotate_left
   ·intro W hSw;go_simp;try (with_reducible rfl)
   try simp only[Act.put,sA,sZ,sS]
   refine tk (i:=2) (oi:=⟨some 79,_,_,_,_,_⟩) (v:=?_) rfl (Or.inl ⟨by rfl,?_⟩) ?_
   rotate_left
   ·intro W hSw;go_simp;try (with_reducible rfl)
   try simp only[Act.put,sA,sZ,sS]
   refine tk (i:=3) (oi:=⟨some 80,_,_,_,_,_⟩) rfl (yieldsIf_load_mid (by rfl) _ _ rfl _ _ rfl _ _ (fun _ h=>h.1) Tryz.underlying67 rfl (recInfo _ _ _ _ _)) ?_
   try simp only[Act.put,sA,sZ,sS]
   refine tk (i:=4) (oi:=⟨some 81,_,_,_,_,_⟩) (v:=?_) rfl (Or.inl ⟨by rfl,?_⟩) ?_
   rotate_left
   ·intro W hSw;go_simp;try (with_reducible rfl)
   try simp only[Act.put,sA,sZ,sS]
   refine tk (i:=5) (oi:=⟨some 82,_,_,_,_,_⟩) (v:=?_) rfl (Or.inl ⟨by rfl,?_⟩) ?_
   rotate_left
   ·intro W hSw;go_simp;try (with_reducible rfl)
   try simp only[Act.put,sA,sZ,sS]
   refine tk (i:=6) (oi:=⟨some 83,_,_,_,_,_⟩) (v:=?_) rfl (Or.inl ⟨by rfl,?_⟩) ?_
   rotate_left
   ·intro W hSw;go_simp;try (with_reducible rfl)
   try simp only[Act.put,sA,sZ,sS]
   refine tk (i:=7) (oi:=⟨some 84,_,_,_,_,_⟩) rfl (yieldsIf_load_mid (by rfl) _ _ rfl _ _ rfl _ _ (fun _ h=>h.2) Tryz.underlying67 rfl (recInfo _ _ _ _ _)) ?_
   try simp only[Act.put,sA,sZ,sS]
   refine wpAnyH_ready (rs:=[8]) (by kernel_rfl) (by simp) ?_
   refine AllReadyH.cons (o:=⟨some 85,_,_,_,_,_⟩) rfl (fun KK hKK=>?_) AllReadyH.nil
   go_simp
   ((with_reducible refine(HSm.out _ D8.out).mono ?_);rintro e w9 ⟨rfl,hb9⟩;have B9:=Lib.hid (D8.out.trans (hb9.mono D8.out.size));clear hb9)
   try go_wp2_with fail
   refine hKK.out _ _ (by exact(HS.out _ B9.out)) (fun hHeld=>?_)
   clear hKK KK
   try simp only[Act.put,sA,sZ,sS]
   refine tk (i:=9) (oi:=⟨some 86,_,_,_,_,_⟩) (v:=?_) rfl (Or.inl ⟨by rfl,?_⟩) ?_
   rotate_left
   ·intro W hSw;go_simp;try (with_reducible rfl)
   try simp only[Act.put,sA,sZ,sS]
   refine tk (i:=10) (oi:=⟨some 87,_,_,_,_,_⟩) (v:=?_) rfl (Or.inl ⟨by rfl,?_⟩) ?_
   rotate_left
   ·intro W hSw;go_simp;try (with_reducible rfl)
   try simp only[Act.put,sA,sZ,sS]
   refine wpAnyH_done (by kernel_rfl) ?_ _
   refine NoPanic.normal ?_
   go_wp2_with fail
   go_roundw
   case rel=>exact⟨x+1,by omega,rfl,Lib.hid (B68.out.trans (B9.out.mono B68.out.size))⟩
   case measure=>simp[Rn.natOf];omega
  ·have dd1:decide ((x:Int)<(m5:Int))=false:=by simp;omega
   go_wp2_with fail
   go_ret
   exact⟨rfl,BB.out.trans (hbr.out.mono BB.out.size)⟩
theorem walk (a:Option Addr)(len cap:Nat)(z:List Int)(w:World)(h:IsRow .i64 w a len cap z):
 Calls Tryz.prog 9 #[.slice a len cap] w fun e w'=>e= .returned (.bool true)∧Below w.heap.size w w':=by
 obtain⟨hI,h2,h3⟩:=ints_in h
 by_cases h1:len≤300
 ·exact walk_main a len cap _ w hI h1
 ·have d1:decide ((300:Int)<(len:Int))=true:=by simp;omega
  clear h hI
  go_enter Tryz.func9,Tryz.ntmps9
  go_wp2_with(go_at_call 45;((with_reducible refine(first_link _).mono ?_);rintro e w1 ⟨rfl,hb1⟩;have B1:=Lib.hid hb1;clear hb1))
  go_ret
  exact⟨rfl,B1.out⟩
end LinkEntriesW
end Go.Proofs.YtelmgldkgccecaaGreat
