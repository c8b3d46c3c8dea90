/-
  Texts beneath the proof.
-/
import Derived.Test.YtelmgldkgccecaaGreatQr29
import Derived.Test.YtelmgldkgccecaaGreatQr37
import Derived.Test.YtelmgldkgccecaaGreatQr28
import Derived.Test.YtelmgldkgccecaaGreatQr30
import Derived.Test.YtelmgldkgccecaaGreatQr34
import Derived.Test.YtelmgldkgccecaaGreatQr13
set_option linter.unusedVariables false
set_option linter.unusedSimpArgs false
set_option maxRecDepth 100000
namespace Go.Proofs.YtelmgldkgccecaaGreat
namespace Zh
open Ob Ga Ma Za Zb Zd
theorem u8_body {o:O}(hk:o.Ok)(i a:Nat)(hi:i<o.ws.length)(ha:a=8*i):u8 o.body a=o.ws.getD i 0:=by rw[ha];exact body_w hk i hi
variable {h : HD} {l hd : List Int} {os : List O} {t : Nat} {arr its : List Nat}
end Zh
namespace Zi
open Go1 (hcode magicB)
end Zi
namespace Zk
open Bytes8 Blk8 Ya Ob Ga Ma Mb Mg Na Nc Nh Nl Np Nq Ns Nt Nu Fa Yd Yc Yp Yg Yj Za Zb Zc Zd Ze Zg Zh Zj Pr8 Ps8 Pl8 Rj Rk Rm Rn Rr
open Rd (dcode dz)
open Ri (ecode9)
abbrev W64 (x:Int):Prop:=0≤x∧x≤18446744073709551615
theorem ent_split (s r m:Int)(K:Nat→Int)(x:Int)(ps:List Int):entB s r m K x ps=nums [s,r,m]++(idL K++(nums [x]++nums ps)):=by unfold entB;simp
theorem ent_nums (s r m:Int)(K:Nat→Int)(x:Int)(ps:List Int)(hs:W64 s)(hr:W64 r)(hm:W64 m)(hx:W64 x):
 u8 (entB s r m K x ps) 0=s∧u8 (entB s r m K x ps) 8=r∧u8 (entB s r m K x ps) 16=m∧u8 (entB s r m K x ps) 40=x:=by
 rw[ent_split]
 refine⟨nums_at [s,r,m] _ 0 0 rfl (by simp) hs,nums_at [s,r,m] _ 1 8 rfl (by simp) hr,nums_at [s,r,m] _ 2 16 rfl (by simp) hm,?_⟩
 have h:=u8_app (nums [s,r,m]++idL K) (nums [x]++nums ps) 40 0 (by rw[List.length_append,nums_len];rfl)
 rw[List.append_assoc]at h
 rw[h]
 exact nums_at [x] _ 0 0 rfl (by simp) hx
theorem ent_K (s r m:Int)(K:Nat→Int)(x:Int)(ps:List Int)(i:Nat)(hi:i<16):itK (entB s r m K x ps) i=K i:=by
 unfold itK
 rw[if_pos hi,ent_split,List.getD_eq_getElem?_getD,List.getElem?_append_right (by rw[nums_len];simp),nums_len]
 rw[show 24+i-8* [s,r,m].length=i by simp,List.getElem?_append_left (by simpa [idL]using hi)]
 unfold idL
 rcases i with _|_|_|_|_|_|_|_|_|_|_|_|_|_|_|_|i
 all_goals first|rfl|omega
theorem ent_items (s r m:Int)(K:Nat→Int)(x:Int)(f g:Nat→Int)(n i:Nat)(hi:i<n)(hf:Wd f n)(hg:Wd g n):
 itA (entB s r m K x (prs f g n)) i=f i∧itH (entB s r m K x (prs f g n)) i=g i:=by
 unfold itA itH entB
 have hl:(nums [s,r,m]++idL K++nums [x]).length=48:=by rw[List.length_append,List.length_append,nums_len,nums_len];rfl
 have h:=prs_read f g n i hi hf hg []
 rw[List.append_nil]at h
 rw[u8_app _ _ 48 _ hl,Nat.add_assoc,u8_app _ _ 48 _ hl]
 exact h
theorem xr_perm {l m:List (List Int)}(h:l.Perm m):xr l=xr m:=by
 induction h with
 |nil=>rfl
 |cons x _ ih=>rw[xr_cons,xr_cons,ih]
 |swap x y l=>rw[xr_cons,xr_cons,xr_cons,xr_cons,Nat.xor_assoc,Nat.xor_assoc,Nat.xor_comm (lookN x)]
 |trans _ _ h1 h2=>exact h1.trans h2
theorem risB_of {f:Nat→Int}: ∀ {n:Nat},(∀i,i+1<n→f i<f (i+1))→risB f n=true
 |0,_=>rfl
 |1,_=>rfl
 |n+2,h=>by
  unfold risB
  rw[risB_of (n:=n+1) (fun i hi=>h i (by omega))]
  simpa using h n (by omega)
theorem rowsL_get {who:List Nat}{T:Nat→List Int}{P:Nat→List Int}(h: ∀i (hi:i<who.length),P i=T who[i]):rowsL P who.length=who.map T:=by
 unfold rowsL
 refine List.ext_getElem (by simp) fun i h1 h2=>?_
 rw[List.getElem_map,List.getElem_map,List.getElem_range]
 exact h i (by simpa using h2)
theorem key_is (H:HD)(C:Cf)(hic:H.ic=if C.keyed then 4 else 0)(hI: ∀i,i<16→H.I i=C.F i):keyB H.ic=C.keyed∧idL H.I=Cf.file C:=by
 refine⟨?_,?_⟩
 ·rw[hic]
  cases C.keyed
  ·rfl
  ·rfl
 ·unfold idL Cf.file idL
  rw[hI 0 (by decide),hI 1 (by decide),hI 2 (by decide),hI 3 (by decide),hI 4 (by decide),hI 5 (by decide),hI 6 (by decide),hI 7 (by decide),hI 8 (by decide),hI 9 (by decide),hI 10 (by decide),hI 11 (by decide),hI 12 (by decide),hI 13 (by decide),hI 14 (by decide),hI 15 (by decide)]
theorem data_read {m:Mk}{os:List O}{hs:Nat→List Nat}{mi:List Nat}{es:List (Nat×List Int)}(hH:Hold m os hs mi es){H:HD}{l hd:List Int}(hl:l=hd++enc os)(hh:hd.length=272)(h0:H.N 0=272)(hic:H.ic=if m.C.keyed then 4 else 0)(hI: ∀i,i<16→H.I i=m.C.F i){x:Nat}(hx:x<m.datas.length)(htx:(Mk.kn m x).text≠ []):
 hcode9 H l l.length (Mk.kn m x).at_=0∧bnum l (Mk.kn m x).at_ 1 6 0=Mk.sum m (Mk.kn m x).text∧bpay l (Mk.kn m x).at_ 1 6=(Mk.kn m x).text∧(Mk.kn m x).at_<l.length:=by
 have D:=hH.dat x hx
 rw[kn_at hx]at htx⊢
 generalize m.datas[x]=d at*
 obtain⟨o,ho,hsh⟩:=shp_some D.sh
 have ok:=hH.rep.ok o (obj_mem _ _ _ _ ho)
 injection hsh with h1 h2 h3 h4
 obtain⟨c1,c2,c3,c4⟩:=read_at hl hh ho ok
 have htl:=List.length_pos_iff.2 htx
 have hbl:o.body.length=48+d.text.length:=by rw[O.body_len,h2,h3]
 have hbc:bcode l d.at_ 1 6=0:=by
  unfold bcode
  rw[if_neg (by omega),c2,h1,if_neg (by decide),c4,if_neg (by omega)]
 have hsz:l.length=endO os:=by rw[hl,List.length_append,hh];rfl
 have hlt:=shp_lt D.sh
 dsimp only at hlt
 have h272:272≤d.at_:=hlt.1
 have hnum:bnum l d.at_ 1 6 0=Mk.sum m d.text:=by
  unfold bnum
  rw[if_pos hbc,c4,show 8*0=0 from rfl,u8_body ok 0 0 (by omega) rfl,←D.w0]
  unfold wd
  rw[ho]
 have hpay:bpay l d.at_ 1 6=d.text:=by
  unfold bpay
  rw[if_pos hbc,c4]
  unfold O.body
  rw[List.drop_left' (by rw[nums_len,h2]),h3]
 have hdc:dcode H l l.length d.at_=0:=by
  unfold dcode
  rw[if_pos ⟨by rw[h0];omega,by omega⟩,hbc]
 obtain⟨k1,k2⟩:=key_is H m.C hic hI
 refine⟨?_,hnum,hpay,by omega⟩
 unfold hcode9
 rw[if_neg (by omega),hnum,hpay,k1,k2]
 exact if_pos rfl
theorem rec_read {m:Mk}{rs:List RR}{os:List O}{hs:Nat→List Nat}{mi:List Nat}{es:List (Nat×List Int)}(k:Kept m rs.length os hs mi es)(q:Recs m rs es){H:HD}{l hd:List Int}(hl:l=hd++enc os)(hh:hd.length=272)(h0:H.N 0=272)(hic:H.ic=m.h.ic)(hI: ∀i,i<16→H.I i=m.h.I i)(i:Nat)(hi:i<rs.length):
 rcode H l l.length (mi.getD i 0)=0∧(recP H l l.length (mi.getD i 0)).s=m.h.N 9-rs.length+i+1∧(recP H l l.length (mi.getD i 0)).r=rs[i].2.1∧(recP H l l.length (mi.getD i 0)).m=rs[i].2.2.1∧(∀j,j<16→(recP H l l.length (mi.getD i 0)).K j=rs[i].2.2.2 j)∧(∀x,x∈(recP H l l.length (mi.getD i 0)).pl↔x∈listL rs[i].1):=by
 have hie:i<es.length:=by have:=q.len;omega
 have hat:mi.getD i 0=es[i].1:=by
  rw[←k.ent,List.getD_eq_getElem?_getD,List.getElem?_eq_getElem (by rw[List.length_map];exact hie),List.getElem_map];rfl
 have hbd:=k.bd es[i].1 (by rw[←k.ent];exact List.mem_map.2 ⟨_,List.getElem_mem hie,rfl⟩)
 rw[hat]
 have hE:=k.hold.ent i hie
 obtain⟨who,w1,w2,w3,w4⟩:=q.ent i hi hie
 have hr:=q.ok rs[i] (List.getElem_mem hi)
 have hb1:=q.base
 have hb2:=q.top
 have hic2:H.ic=if m.C.keyed then 4 else 0:=hic.trans q.ic
 have hI2: ∀i,i<16→H.I i=m.C.F i:=fun i hi=>(hI i hi).trans (q.I i hi)
 generalize rs[i]=r at*
 obtain⟨L,real,mono,K⟩:=r
 obtain⟨r1,r2,r3,r4,r5⟩:=hr
 dsimp only at r1 r2 r3 r4 r5 w3 w4⊢
 have hsq:W64 (m.h.N 9-(rs.length:Int)+(i:Int)+1):=⟨by omega,by omega⟩
 have hsq0:m.h.N 9-(rs.length:Int)+(i:Int)+1≠0:=by omega
 generalize m.h.N 9-(rs.length:Int)+(i:Int)+1=sq at*
 generalize es[i]=e at*
 obtain⟨a,body⟩:=e
 dsimp only at hE hbd w4⊢
 obtain⟨n16,hok⟩:=list_ok r1
 have hpos:listL L≠ []:=by
  unfold listL
  rw[if_pos r1]
  have hL:L≠ []:=fun h=>by unfold listE at r1;rw[if_pos h]at r1;cases r1
  obtain⟨y,hy⟩:=List.exists_mem_of_ne_nil _ hL
  exact List.ne_nil_of_mem ((sortP_mem _ y).2 ((ded_mem L y).2 hy))
 have hwl:who.length=(listL L).length:=by have:=w3.length_eq;rwa[List.length_map,List.length_map]at this
 have hw0:0<who.length:=by rw[hwl];exact List.length_pos_iff.2 hpos
 have htext: ∀x∈who,∃p∈listL L,(Mk.kn m x).text=pay p.1 p.2∧flawI p.1 p.2=0:=fun x hx=>by
  obtain⟨p,hp,e⟩:=List.mem_map.1 (w3.mem_iff.1 (List.mem_map.2 ⟨x,hx,rfl⟩))
  exact⟨p,hp,e.symm,(hok p hp).2⟩
 have hne: ∀x∈who,(Mk.kn m x).text≠ []:=fun x hx=>by
  obtain⟨p,_,e,_⟩:=htext x hx
  rw[e];unfold pay;simp
 have hrd: ∀x∈who,_:=fun x hx=>data_read k.hold hl hh h0 hic2 hI2 (w1 x hx) (hne x hx)
 have hsz:l.length=endO os:=by rw[hl,List.length_append,hh];rfl
 have hbs:=k.hold.rep.size
 have hmax:=k.good.img.len
 have hf:Wd (fun i=>((Mk.kn m (who.getD i 0)).at_:Int)) who.length:=fun j hj=>by
  have:=(hrd _ (List.getElem_mem hj)).2.2.2
  rw[←getD_lt hj]at this
  dsimp only
  omega
 have hg:Wd (fun i=>Mk.sum m (Mk.kn m (who.getD i 0)).text) who.length:=fun j hj=>by
  have D:=k.hold.dat _ (w1 _ (List.getElem_mem hj))
  have h2:=wd_bd k.hold.rep (a:=(m.datas[who[j]]'(w1 _ (List.getElem_mem hj))).at_) (j:=0)
  rw[D.w0]at h2
  dsimp only
  rw[getD_lt hj,kn_at (w1 _ (List.getElem_mem hj))]
  exact h2
 have hX:W64 ((xr ((listL L).map fun q=>pay q.1 q.2):Nat):Int):=by
  have:=xr_lt ((listL L).map fun q=>pay q.1 q.2)
  exact⟨by omega,by omega⟩
 obtain⟨o,ho,hsh⟩:=shp_some hE
 have ok:=k.hold.rep.ok o (obj_mem _ _ _ _ ho)
 injection hsh with h1 h2 h3 h4
 obtain⟨c1,c2,c3,c4⟩:=read_at hl hh ho ok
 have hob:o.body=body:=by
  unfold O.body
  rw[List.eq_nil_of_length_eq_zero h2,h3]
  rfl
 rw[hob]at c3 c4
 have hbl:body.length=48+16*who.length:=by rw[w4,entB_len]
 obtain⟨n0,n8,n16',n40⟩:=ent_nums sq real mono K _ (prs (fun i=>((Mk.kn m (who.getD i 0)).at_:Int)) (fun i=>Mk.sum m (Mk.kn m (who.getD i 0)).text) who.length) hsq r3 r4 hX
 have hit:=fun j hj=>ent_items sq real mono K ((xr ((listL L).map fun q=>pay q.1 q.2):Nat):Int) (fun i=>((Mk.kn m (who.getD i 0)).at_:Int)) (fun i=>Mk.sum m (Mk.kn m (who.getD i 0)).text) who.length j hj hf hg
 have hKK:=fun j hj=>ent_K sq real mono K ((xr ((listL L).map fun q=>pay q.1 q.2):Nat):Int) (prs (fun i=>((Mk.kn m (who.getD i 0)).at_:Int)) (fun i=>Mk.sum m (Mk.kn m (who.getD i 0)).text) who.length) j hj
 rw[←w4]at n0 n8 n16' n40 hit hKK
 have hN:itN body=who.length:=by unfold itN;omega
 have hris:risB (itA body) who.length=true:=by
  rw[risB_cong (fun j hj=>(hit j hj).1)]
  refine risB_of fun j hj=>?_
  have h5:=List.pairwise_iff_getElem.1 w2 j (j+1) (by omega) (by omega) (by omega)
  try dsimp only
  rw[getD_lt (by omega),getD_lt (by omega)]
  omega
 have hec:ecode l a 3 48 16=0:=by
  unfold ecode
  rw[if_neg (by omega),c2,h1,if_neg (by decide),c4,hbl,if_neg (by omega)]
 have hcode:entC0 l a=0:=by
  unfold entC0
  rw[if_neg (by omega),c4,n0,if_neg hsq0,hN,hris]
  rfl
 obtain⟨t1,t2,t3⟩:=told_yes hcode
 rw[c4]at t2 t3
 have hec9:ecode9 H l l.length a=0:=by
  unfold ecode9
  rw[if_pos ⟨by rw[h0];omega,by omega⟩,hcode]
 have hP: ∀j (hj:j<who.length),payP l (itA body) j=(Mk.kn m who[j]).text:=fun j hj=>by
  show bpay l (itA body j).toNat 1 6=_
  rw[(hit j hj).1]
  try dsimp only
  rw[getD_lt hj,Int.toNat_natCast]
  exact(hrd _ (List.getElem_mem hj)).2.2.1
 have hrows:rowsL (payP l (itA body)) who.length=who.map fun x=>(Mk.kn m x).text:=rowsL_get hP
 have hic0: ∀j,j<who.length→icode H l l.length (itA body) (itH body) j=0:=fun j hj=>by
  obtain⟨p1,p2,p3,p4⟩:=hrd _ (List.getElem_mem hj)
  have e1:itA body j=((Mk.kn m who[j]).at_:Int):=by rw[(hit j hj).1];(try dsimp only);rw[getD_lt hj]
  have e2:itH body j=Mk.sum m (Mk.kn m who[j]).text:=by rw[(hit j hj).2];(try dsimp only);rw[getD_lt hj]
  rw[icode_split e1 p1 (p2.trans e2.symm),p3]
  obtain⟨p,_,e,fl⟩:=htext _ (List.getElem_mem hj)
  rw[e]
  exact(split_pay fl).1
 have hrc:rcode H l l.length a=0:=by
  unfold rcode
  rw[t3,hN,c4]
  refine(rc_of H l l.length _ who.length (itA body) (itH body) _).e hec9 (by omega) hic0 ?_
  rw[t1,c4,n40,hrows,xr_perm w3]
 unfold recP
 rw[if_pos hrc]
 refine⟨hrc,?_,?_,?_,fun j hj=>?_,fun x=>?_⟩
 ·show eNum l a 0=sq;rw[t1,c4,n0]
 ·show eNum l a 8=real;rw[t1,c4,n8]
 ·show eNum l a 16=mono;rw[t1,c4,n16']
 ·show eK l a j=K j;rw[t2];exact hKK j hj
 ·show x∈prsL (payP l (itA (bodyL l a))) (eN l a)↔_
  rw[t3,hN,c4]
  have hpl:prsL (payP l (itA body)) who.length=(who.map fun x=>(Mk.kn m x).text).map fun t=>(splitN t,splitV t):=by
   rw[←hrows]
   unfold prsL rowsL
   rw[List.map_map]
   rfl
  rw[hpl]
  constructor
  ·intro hx
   obtain⟨t,ht,e⟩:=List.mem_map.1 hx
   obtain⟨p,hp,e2⟩:=List.mem_map.1 (w3.mem_iff.1 ht)
   obtain⟨_,s2,s3⟩:=split_pay (hok p hp).2
   rw[←e,←e2]
   try dsimp only
   rw[s2,s3]
   exact hp
  ·intro hx
   obtain⟨_,s2,s3⟩:=split_pay (hok x hx).2
   refine List.mem_map.2 ⟨pay x.1 x.2,w3.mem_iff.2 (List.mem_map.2 ⟨x,hx,rfl⟩),?_⟩
   rw[s2,s3]
end Zk
namespace Zl
open Bytes8 Ga Gb Gf Gj Gm Ma Mb Mh Na Nc Nt Za Zb Zd Zg Zj Zk Rn Rr Pl8
open Go1 (hcode magicB)
def stH (m:Mk)(st:Int):HD:=HD.plus (Mk.head m st) (m.depth:Int)
def stL (m:Mk)(st:Int):List Int:=(stH m st).bytes 21++m.b.drop 272
theorem stH_N (m:Mk)(st:Int)(i:Nat)(hi:i<20):(stH m st).N i=if i=1 then(m.b.length:Int)-272 else m.h.N i:=imgH_N m i hi
theorem st_ok {m:Mk}(h:Img m){st:Int}(hs:0≤st∧st≤2):(stH m st).Ok 21:=by
 have k:=imgH_ok h
 exact {cp:=k.cp,ic:=k.ic,st:=by show -9223372036854775808≤st∧st≤9223372036854775807;omega,I:=k.I,ta:=k.ta,ti:=k.ti,te:=k.te,N:=k.N}
theorem st_head {m:Mk}(h:Img m){st:Int}(hs:0≤st∧st≤2):(Mk.head m st).Ok 20:=by
 have k:=head_ok h
 exact {cp:=k.cp,ic:=k.ic,st:=by show -9223372036854775808≤st∧st≤9223372036854775807;omega,I:=k.I,ta:=k.ta,ti:=k.ti,te:=k.te,N:=k.N}
theorem st_len {m:Mk}(h:Img m)(st:Int):(stL m st).length=m.b.length:=by
 have:=h.lens
 unfold stL
 rw[List.length_append,HD.bytes_len,List.length_drop]
 omega
theorem st_says {m:Mk}(h:Img m){st:Int}(hs:0≤st∧st≤2):Says (hdOf (stL m st)) (stH m st):=
 hd_back (stH m st) (st_ok h hs) (by show 0≤st∧st<256;omega) (m.b.drop 272)
theorem st_fcode {m:Mk}(h:Img m){st:Int}(hs:0≤st∧st≤2)(N:Int):fcode (stH m st) N=fcode (imgH m) N:=by
 have e: ∀i,(stH m st).N i=(imgH m).N i:=fun i=>rfl
 have e2:stB (stH m st).st=stB (imgH m).st:=by
  show stB st=stB 1
  have:st=0∨st=1∨st=2:=by omega
  rcases this with h|h|h<;>subst h<;>rfl
 unfold fcode endV endB
 rw[e2]
 rfl
theorem st_hcode {m:Mk}(h:Img m){st:Int}(hs:0≤st∧st≤2):hcode (stL m st) m.b.length=0:=by
 have hl:=h.lens
 unfold hcode
 rw[if_neg (by omega),show magicB (stL m st)=true from magic_back _ _ _,if_neg (by simp),(st_says h hs).fcode,st_fcode h hs,img_fcode h _ (by omega)]
theorem st_end {m:Mk}(h:Img m){st:Int}(hs:0≤st∧st≤2):endV (hdOf (stL m st))=(m.b.length:Int)∧endB (hdOf (stL m st))=true:=by
 have s:=st_says h hs
 have e0:=(s.N 0 (by decide)).trans (stH_N m st 0 (by decide))
 have e1:=(s.N 1 (by decide)).trans (stH_N m st 1 (by decide))
 obtain⟨l1,l2,l3⟩:=h.lens
 rw[if_neg (by decide),h.hg.n0]at e0
 rw[if_pos rfl]at e1
 unfold endV endB
 rw[e0,e1]
 constructor
 ·split<;>omega
 ·simp;omega
theorem st_rec {m:Mk}{rs:List RR}{os:List O}{hs:Nat→List Nat}{mi:List Nat}{es:List (Nat×List Int)}(k:Kept m rs.length os hs mi es)(q:Recs m rs es){st:Int}(ht:0≤st∧st≤2)(i:Nat)(hi:i<rs.length):
 rcode (hdOf (stL m st)) (stL m st) m.b.length (mi.getD i 0)=0∧(recP (hdOf (stL m st)) (stL m st) m.b.length (mi.getD i 0)).s=m.h.N 9-rs.length+i+1∧(recP (hdOf (stL m st)) (stL m st) m.b.length (mi.getD i 0)).r=rs[i].2.1∧(recP (hdOf (stL m st)) (stL m st) m.b.length (mi.getD i 0)).m=rs[i].2.2.1∧(∀j,j<16→(recP (hdOf (stL m st)) (stL m st) m.b.length (mi.getD i 0)).K j=rs[i].2.2.2 j)∧(∀x,x∈(recP (hdOf (stL m st)) (stL m st) m.b.length (mi.getD i 0)).pl↔x∈listL rs[i].1):=by
 have hI:=k.good.img
 have s:=st_says hI ht
 have hL:=st_len hI st
 have e0:=(s.N 0 (by decide)).trans (stH_N m st 0 (by decide))
 rw[if_neg (by decide),hI.hg.n0]at e0
 have hl:stL m st=(stH m st).bytes 21++enc os:=by unfold stL;rw[k.hold.rep.rep.eq]
 have r:=rec_read k q (H:=hdOf (stL m st)) hl (by rw[HD.bytes_len]) e0 s.ic (fun i hi=>s.I i (by omega)) i hi
 rw[hL]at r
 exact r
end Zl
namespace Zu
open Bytes8 Ob Ga Ma Mb Na Nc Nt Za Zb Zc Zd Zg Zj Zl
def bnd (os:List O)(k:Nat):Prop:=k=endO os∨ ∃o,obj 272 os k=some o
theorem obj_next: ∀(os:List O) (s a:Nat) (o:O),obj s os a=some o→a+o.n=s+(enc os).length∨ ∃o2,obj s os (a+o.n)=some o2
 | [],s,a,o,h=>by cases h
 |x::os,s,a,o,h=>by
  have hx:x.enc.length=x.n:=rfl
  have h8:=x.n8
  unfold obj at h
  by_cases e:a=s
  ·rw[if_pos e]at h
   injection h with h
   subst h
   subst e
   cases os with
   |nil=>exact .inl (by rw[enc_cons,List.length_append];simp[enc];omega)
   |cons y t=>
    refine .inr ⟨y,?_⟩
    unfold obj
    rw[if_neg (by omega)]
    unfold obj
    rw[if_pos rfl]
  ·rw[if_neg e]at h
   have hb:=obj_bd os (s+x.n) a o h
   have h8o:=o.n8
   rcases obj_next os (s+x.n) a o h with h1|⟨o2,h1⟩
   ·exact .inl (by rw[enc_cons,List.length_append];omega)
   ·refine .inr ⟨o2,?_⟩
    unfold obj
    rw[if_neg (by omega)]
    exact h1
theorem bnd_first (os:List O):bnd os 272:=by
 cases os with
 |nil=>exact .inl rfl
 |cons x t=>exact .inr ⟨x,by unfold obj;rw[if_pos rfl]⟩
theorem bnd_next {os:List O}{a:Nat}{o:O}(h:obj 272 os a=some o):bnd os (a+o.n):=obj_next os 272 a o h
theorem bnd_at {os:List O}{k:Nat}(h:bnd os k)(hk:k<endO os): ∃o,obj 272 os k=some o:=by
 rcases h with h|h
 ·omega
 ·exact h
theorem obj_apart: ∀(os:List O) (s a b:Nat) (o p:O),obj s os a=some o→obj s os b=some p→a<b→a+o.n≤b
 | [],s,a,b,o,p,h,_,_=>by cases h
 |x::os,s,a,b,o,p,h,g,hlt=>by
  unfold obj at h g
  by_cases e:a=s
  ·rw[if_pos e]at h
   injection h with h
   subst h
   rw[if_neg (by omega)]at g
   have:=obj_bd os _ b p g
   omega
  ·rw[if_neg e]at h
   have h1:=obj_bd os _ a o h
   rw[if_neg (by omega)]at g
   exact obj_apart os _ a b o p h g hlt
structure Cut (mi:List Nat)(c k:Nat):Prop where
 le:c≤mi.length
 is: ∀i (h:i<mi.length),i<c↔mi[i]<k
variable {m : Mk} {n0 : Nat} {os : List O} {hs : Nat → List Nat} {mi : List Nat} {es : List (Nat × List Int)}
theorem cut_first (k:Kept m n0 os hs mi es):Cut mi 0 272:=
 ⟨Nat.zero_le _,fun i h=>⟨fun h=>absurd h (Nat.not_lt_zero _),fun h2=>by have:=(k.bd mi[i] (List.getElem_mem h)).1;omega⟩⟩
theorem cut_end {c:Nat}(k:Kept m n0 os hs mi es)(h:Cut mi c m.b.length):c=mi.length:=by
 rcases Nat.lt_or_ge c mi.length with h1|h1
 ·have:=(h.is c h1).2 (k.bd _ (List.getElem_mem h1)).2
  omega
 ·have:=h.le;omega
theorem mi_obj (k:Kept m n0 os hs mi es)(i:Nat)(h:i<mi.length): ∃o,obj 272 os mi[i]=some o∧o.k=3:=by
 have hl:es.length=mi.length:=by rw[←k.ent,List.length_map]
 have he:es[i].1=mi[i]:=by
  have:(es.map Prod.fst)[i]'(by rw[List.length_map];omega)=mi[i]:=by simp only[k.ent]
  rw[←this,List.getElem_map]
 have h1:=k.hold.ent i (by omega)
 rw[he]at h1
 obtain⟨o,ho,hsh⟩:=shp_some h1
 injection hsh with h2
 exact⟨o,ho,h2⟩
theorem cut_other {a c:Nat}{o:O}(k:Kept m n0 os hs mi es)(ho:obj 272 os a=some o)(hk:o.k≠3)(h:Cut mi c a):Cut mi c (a+o.n):=
 ⟨h.le,fun i hi=>(h.is i hi).trans ⟨fun h1=>by omega,fun h1=>by
   obtain⟨p,hp,hp3⟩:=mi_obj k i hi
   rcases Nat.lt_trichotomy mi[i] a with h2|h2|h2
   ·exact h2
   ·rw[h2,ho]at hp
    injection hp with hp
    rw[hp]at hk
    exact absurd hp3 hk
   ·have:=obj_apart _ _ _ _ _ _ ho hp h2
    omega⟩⟩
theorem cut_entry {a c:Nat}{o:O}(k:Kept m n0 os hs mi es)(ho:obj 272 os a=some o)(hk:o.k=3)(h:Cut mi c a): ∃hc:c<mi.length,mi[c]=a∧Cut mi (c+1) (a+o.n):=by
 have hmem:a∈mi:=by
  rcases k.hold.cov a (Zb.O.sh o) (by unfold shp;rw[ho];rfl)with h1|h1|⟨d,h1,h2⟩|⟨f,h1,h2⟩|⟨e,h1,h2⟩|h1
  ·exfalso
   obtain⟨g,hg⟩:=k.hold.td.sh
   obtain⟨p,hp,hsh⟩:=shp_some hg
   rw[h1,hp]at ho
   injection ho with ho
   injection hsh with h2
   rw[ho]at h2;omega
  ·exfalso
   obtain⟨g,hg⟩:=k.hold.tf.sh
   obtain⟨p,hp,hsh⟩:=shp_some hg
   rw[h1,hp]at ho
   injection ho with ho
   injection hsh with h2
   rw[ho]at h2;omega
  ·exfalso
   obtain⟨i,hi,rfl⟩:=List.getElem_of_mem h1
   obtain⟨p,hp,hsh⟩:=shp_some (k.hold.dat i hi).sh
   rw[h2,ho]at hp
   injection hp with hp
   injection hsh with h2
   rw[←hp]at h2;omega
  ·exfalso
   obtain⟨i,hi,rfl⟩:=List.getElem_of_mem h1
   obtain⟨p,hp,hsh⟩:=shp_some (k.hold.fld i hi).sh
   rw[h2,ho]at hp
   injection hp with hp
   injection hsh with h2
   rw[←hp]at h2;omega
  ·rw[←k.ent,←h2]
   exact List.mem_map.2 ⟨e,h1,rfl⟩
  ·exfalso
   have:o.k=6:=h1
   omega
 obtain⟨i,hi,e⟩:=List.getElem_of_mem hmem
 have hasc:=List.pairwise_iff_getElem.1 k.rise
 have h8:=o.n8
 have hci:c≤i:=by
  rcases Nat.lt_or_ge i c with h1|h1
  ·have:=(h.is i hi).1 h1;omega
  ·exact h1
 have hic:i≤c:=by
  rcases Nat.lt_or_ge c i with h1|h1
  ·have h2:=hasc c i (by omega) hi h1
   have:=(h.is c (by omega)).2 (by omega)
   omega
  ·exact h1
 have hii:i=c:=by omega
 subst hii
 refine⟨hi,e,hi,fun j hj=>⟨fun h1=>?_,fun h1=>?_⟩⟩
 ·by_cases h2:j=i
  ·subst h2;omega
  ·have:=hasc j i hj hi (by omega);omega
 ·rcases Nat.lt_or_ge j (i+1)with h2|h2
  ·exact h2
  ·exfalso
   have h3:=hasc i j hi hj (by omega)
   obtain⟨p,hp,_⟩:=mi_obj k j hj
   have:=obj_apart _ _ _ _ _ _ ho hp (by omega)
   omega
theorem st_read (k:Kept m n0 os hs mi es){st:Int}{a:Nat}{o:O}(ho:obj 272 os a=some o):
 code (stL m st) a=0∧kindL (stL m st) a=o.k∧1≤o.k∧o.k≤7∧ ∃z:Nat,sizeL (stL m st) a=(z:Int)∧16≤z∧(z+7)/8*8=o.n∧a+o.n≤m.b.length∧272≤a:=by
 have hl:stL m st=(stH m st).bytes 21++enc os:=by unfold stL;rw[k.hold.rep.rep.eq]
 have ok:=k.hold.rep.ok o (obj_mem _ _ _ _ ho)
 obtain⟨c1,c2,c3,c4⟩:=read_at hl (by rw[HD.bytes_len]) ho ok
 have hb:=obj_bd _ _ _ _ ho
 have hsz:=k.hold.rep.size
 unfold endO at hsz
 have hn:=o.n_is
 have hbl:=o.body_len
 refine⟨c1,c2,ok.k.1,ok.k.2,16+o.body.length,c3,by omega,?_,by omega,hb.1⟩
 rw[hn,←hbl]
 have hp:padN o.body.length=(8-o.body.length%8)%8:=by first|rfl|(unfold padN;omega)
 omega
theorem kept_end (k:Kept m n0 os hs mi es):endO os=m.b.length:=k.hold.rep.size.symm
end Zu
end Go.Proofs.YtelmgldkgccecaaGreat
