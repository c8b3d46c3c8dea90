/-
  Texts beneath the proof.
-/
import Derived.Test.YtjecmgkmcfkcjaaGreatQc37
set_option linter.unusedVariables false
set_option linter.unusedSimpArgs false
set_option maxRecDepth 100000
set_option maxHeartbeats 8000000
open Go.ChangeShapes Go.WideShapes Go.ChangeAt Go.RowKit
namespace Go.Proofs.YtjecmgkmcfkcjaaGreat
namespace Zk
open Bytes8 Blk8 Ya Ob Ga Ma Mb Mg Na Nc Nh Nl Np Nq Ns Nt Nu Fa Yd Yc Yp Yg Yj Za Zb Zc Zd Ze Zg Zh Zj Pr8 Ps8 Pl8 Rj Rk Rm Rn Rr
open Rd (dcode dz)
open Ri (ecode9)
abbrev W64 (x:Int):Prop:=0≤x∧x≤18446744073709551615
theorem ent_split (s r m:Int)(K:Nat→Int)(x:Int)(ps:List Int):entB s r m K x ps=nums [s,r,m]++(idL K++(nums [x]++nums ps)):=by unfold entB;simp
theorem ent_nums (s r m:Int)(K:Nat→Int)(x:Int)(ps:List Int)(hs:W64 s)(hr:W64 r)(hm:W64 m)(hx:W64 x):
 u8 (entB s r m K x ps) 0=s∧u8 (entB s r m K x ps) 8=r∧u8 (entB s r m K x ps) 16=m∧u8 (entB s r m K x ps) 40=x:=by
 rw[ent_split]
 refine⟨nums_at [s,r,m] _ 0 0 rfl (by simp) hs,nums_at [s,r,m] _ 1 8 rfl (by simp) hr,nums_at [s,r,m] _ 2 16 rfl (by simp) hm,?_⟩
 have h:=u8_app (nums [s,r,m]++idL K) (nums [x]++nums ps) 40 0 (by rw[List.length_append,nums_len];rfl)
 rw[List.append_assoc]at h
 rw[h]
 exact nums_at [x] _ 0 0 rfl (by simp) hx
theorem ent_K (s r m:Int)(K:Nat→Int)(x:Int)(ps:List Int)(i:Nat)(hi:i<16):itK (entB s r m K x ps) i=K i:=by
 unfold itK
 rw[if_pos hi,ent_split,List.getD_eq_getElem?_getD,List.getElem?_append_right (by rw[nums_len];simp),nums_len]
 rw[show 24+i-8* [s,r,m].length=i by simp,List.getElem?_append_left (by simpa [idL]using hi)]
 unfold idL
 rcases i with _|_|_|_|_|_|_|_|_|_|_|_|_|_|_|_|i
 all_goals first|rfl|omega
theorem ent_items (s r m:Int)(K:Nat→Int)(x:Int)(f g:Nat→Int)(n i:Nat)(hi:i<n)(hf:Wd f n)(hg:Wd g n):
 itA (entB s r m K x (prs f g n)) i=f i∧itH (entB s r m K x (prs f g n)) i=g i:=by
 unfold itA itH entB
 have hl:(nums [s,r,m]++idL K++nums [x]).length=48:=by rw[List.length_append,List.length_append,nums_len,nums_len];rfl
 have h:=prs_read f g n i hi hf hg []
 rw[List.append_nil]at h
 rw[u8_app _ _ 48 _ hl,Nat.add_assoc,u8_app _ _ 48 _ hl]
 exact h
theorem xr_perm {l m:List (List Int)}(h:l.Perm m):xr l=xr m:=by
 induction h with
 |nil=>rfl
 |cons x _ ih=>rw[xr_cons,xr_cons,ih]
 |swap x y l=>rw[xr_cons,xr_cons,xr_cons,xr_cons,Nat.xor_assoc,Nat.xor_assoc,Nat.xor_comm (lookN x)]
 |trans _ _ h1 h2=>exact h1.trans h2
theorem risB_of {f:Nat→Int}: ∀ {n:Nat},(∀i,i+1<n→f i<f (i+1))→risB f n=true
 |0,_=>rfl
 |1,_=>rfl
 |n+2,h=>by
  unfold risB
  rw[risB_of (n:=n+1) (fun i hi=>h i (by omega))]
  simpa using h n (by omega)
theorem rowsL_get {who:List Nat}{T:Nat→List Int}{P:Nat→List Int}(h: ∀i (hi:i<who.length),P i=T who[i]):rowsL P who.length=who.map T:=by
 unfold rowsL
 refine List.ext_getElem (by simp) fun i h1 h2=>?_
 rw[List.getElem_map,List.getElem_map,List.getElem_range]
 exact h i (by simpa using h2)
theorem key_is (H:HD)(C:Cf)(hic:H.ic=if C.keyed then 4 else 0)(hI: ∀i,i<16→H.I i=C.F i):keyB H.ic=C.keyed∧idL H.I=Cf.file C:=by
 refine⟨?_,?_⟩
 ·rw[hic]
  cases C.keyed
  ·rfl
  ·rfl
 ·unfold idL Cf.file idL
  rw[hI 0 (by decide),hI 1 (by decide),hI 2 (by decide),hI 3 (by decide),hI 4 (by decide),hI 5 (by decide),hI 6 (by decide),hI 7 (by decide),hI 8 (by decide),hI 9 (by decide),hI 10 (by decide),hI 11 (by decide),hI 12 (by decide),hI 13 (by decide),hI 14 (by decide),hI 15 (by decide)]
theorem data_read {m:Mk}{os:List O}{hs:Nat→List Nat}{mi:List Nat}{es:List (Nat×List Int)}(hH:Hold m os hs mi es){H:HD}{l hd:List Int}(hl:l=hd++enc os)(hh:hd.length=272)(h0:H.N 0=272)(hic:H.ic=if m.C.keyed then 4 else 0)(hI: ∀i,i<16→H.I i=m.C.F i){x:Nat}(hx:x<m.datas.length)(htx:(Mk.kn m x).text≠ []):
 hcode9 H l l.length (Mk.kn m x).at_=0∧bnum l (Mk.kn m x).at_ 1 6 0=Mk.sum m (Mk.kn m x).text∧bpay l (Mk.kn m x).at_ 1 6=(Mk.kn m x).text∧(Mk.kn m x).at_<l.length:=by
 have D:=hH.dat x hx
 rw[kn_at hx]at htx⊢
 generalize m.datas[x]=d at*
 obtain⟨o,ho,hsh⟩:=shp_some D.sh
 have ok:=hH.rep.ok o (obj_mem _ _ _ _ ho)
 injection hsh with h1 h2 h3 h4
 obtain⟨c1,c2,c3,c4⟩:=read_at hl hh ho ok
 have htl:=List.length_pos_iff.2 htx
 have hbl:o.body.length=48+d.text.length:=by rw[O.body_len,h2,h3]
 have hbc:bcode l d.at_ 1 6=0:=by
  unfold bcode
  rw[if_neg (by omega),c2,h1,if_neg (by decide),c4,if_neg (by omega)]
 have hsz:l.length=endO os:=by rw[hl,List.length_append,hh];rfl
 have hlt:=shp_lt D.sh
 dsimp only at hlt
 have h272:272≤d.at_:=hlt.1
 have hnum:bnum l d.at_ 1 6 0=Mk.sum m d.text:=by
  unfold bnum
  rw[if_pos hbc,c4,show 8*0=0 from rfl,u8_body ok 0 0 (by omega) rfl,←D.w0]
  unfold wd
  rw[ho]
 have hpay:bpay l d.at_ 1 6=d.text:=by
  unfold bpay
  rw[if_pos hbc,c4]
  unfold O.body
  rw[List.drop_left' (by rw[nums_len,h2]),h3]
 have hdc:dcode H l l.length d.at_=0:=by
  unfold dcode
  rw[if_pos ⟨by rw[h0];omega,by omega⟩,hbc]
 obtain⟨k1,k2⟩:=key_is H m.C hic hI
 refine⟨?_,hnum,hpay,by omega⟩
 unfold hcode9
 rw[if_neg (by omega),hnum,hpay,k1,k2]
 exact if_pos rfl
theorem rec_read {m:Mk}{rs:List RR}{os:List O}{hs:Nat→List Nat}{mi:List Nat}{es:List (Nat×List Int)}(k:Kept m rs.length os hs mi es)(q:Recs m rs es){H:HD}{l hd:List Int}(hl:l=hd++enc os)(hh:hd.length=272)(h0:H.N 0=272)(hic:H.ic=m.h.ic)(hI: ∀i,i<16→H.I i=m.h.I i)(i:Nat)(hi:i<rs.length):
 rcode H l l.length (mi.getD i 0)=0∧(recP H l l.length (mi.getD i 0)).s=m.h.N 9-rs.length+i+1∧(recP H l l.length (mi.getD i 0)).r=rs[i].2.1∧(recP H l l.length (mi.getD i 0)).m=rs[i].2.2.1∧(∀j,j<16→(recP H l l.length (mi.getD i 0)).K j=rs[i].2.2.2 j)∧(∀x,x∈(recP H l l.length (mi.getD i 0)).pl↔x∈listL rs[i].1):=by
 have hie:i<es.length:=by have:=q.len;omega
 have hat:mi.getD i 0=es[i].1:=by
  rw[←k.ent,List.getD_eq_getElem?_getD,List.getElem?_eq_getElem (by rw[List.length_map];exact hie),List.getElem_map];rfl
 have hbd:=k.bd es[i].1 (by rw[←k.ent];exact List.mem_map.2 ⟨_,List.getElem_mem hie,rfl⟩)
 rw[hat]
 have hE:=k.hold.ent i hie
 obtain⟨who,w1,w2,w3,w4⟩:=q.ent i hi hie
 have hr:=q.ok rs[i] (List.getElem_mem hi)
 have hb1:=q.base
 have hb2:=q.top
 have hic2:H.ic=if m.C.keyed then 4 else 0:=hic.trans q.ic
 have hI2: ∀i,i<16→H.I i=m.C.F i:=fun i hi=>(hI i hi).trans (q.I i hi)
 generalize rs[i]=r at*
 obtain⟨L,real,mono,K⟩:=r
 obtain⟨r1,r2,r3,r4,r5⟩:=hr
 dsimp only at r1 r2 r3 r4 r5 w3 w4⊢
 have hsq:W64 (m.h.N 9-(rs.length:Int)+(i:Int)+1):=⟨by omega,by omega⟩
 have hsq0:m.h.N 9-(rs.length:Int)+(i:Int)+1≠0:=by omega
 generalize m.h.N 9-(rs.length:Int)+(i:Int)+1=sq at*
 generalize es[i]=e at*
 obtain⟨a,body⟩:=e
 dsimp only at hE hbd w4⊢
 obtain⟨n16,hok⟩:=list_ok r1
 have hpos:listL L≠ []:=by
  unfold listL
  rw[if_pos r1]
  have hL:L≠ []:=fun h=>by unfold listE at r1;rw[if_pos h]at r1;cases r1
  obtain⟨y,hy⟩:=List.exists_mem_of_ne_nil _ hL
  exact List.ne_nil_of_mem ((sortP_mem _ y).2 ((ded_mem L y).2 hy))
 have hwl:who.length=(listL L).length:=by have:=w3.length_eq;rwa[List.length_map,List.length_map]at this
 have hw0:0<who.length:=by rw[hwl];exact List.length_pos_iff.2 hpos
 have htext: ∀x∈who,∃p∈listL L,(Mk.kn m x).text=pay p.1 p.2∧flawI p.1 p.2=0:=fun x hx=>by
  obtain⟨p,hp,e⟩:=List.mem_map.1 (w3.mem_iff.1 (List.mem_map.2 ⟨x,hx,rfl⟩))
  exact⟨p,hp,e.symm,(hok p hp).2⟩
 have hne: ∀x∈who,(Mk.kn m x).text≠ []:=fun x hx=>by
  obtain⟨p,_,e,_⟩:=htext x hx
  rw[e];unfold pay;simp
 have hrd: ∀x∈who,_:=fun x hx=>data_read k.hold hl hh h0 hic2 hI2 (w1 x hx) (hne x hx)
 have hsz:l.length=endO os:=by rw[hl,List.length_append,hh];rfl
 have hbs:=k.hold.rep.size
 have hmax:=k.good.img.len
 have hf:Wd (fun i=>((Mk.kn m (who.getD i 0)).at_:Int)) who.length:=fun j hj=>by
  have:=(hrd _ (List.getElem_mem hj)).2.2.2
  rw[←getD_lt hj]at this
  dsimp only
  omega
 have hg:Wd (fun i=>Mk.sum m (Mk.kn m (who.getD i 0)).text) who.length:=fun j hj=>by
  have D:=k.hold.dat _ (w1 _ (List.getElem_mem hj))
  have h2:=wd_bd k.hold.rep (a:=(m.datas[who[j]]'(w1 _ (List.getElem_mem hj))).at_) (j:=0)
  rw[D.w0]at h2
  dsimp only
  rw[getD_lt hj,kn_at (w1 _ (List.getElem_mem hj))]
  exact h2
 have hX:W64 ((xr ((listL L).map fun q=>pay q.1 q.2):Nat):Int):=by
  have:=xr_lt ((listL L).map fun q=>pay q.1 q.2)
  exact⟨by omega,by omega⟩
 obtain⟨o,ho,hsh⟩:=shp_some hE
 have ok:=k.hold.rep.ok o (obj_mem _ _ _ _ ho)
 injection hsh with h1 h2 h3 h4
 obtain⟨c1,c2,c3,c4⟩:=read_at hl hh ho ok
 have hob:o.body=body:=by
  unfold O.body
  rw[List.eq_nil_of_length_eq_zero h2,h3]
  rfl
 rw[hob]at c3 c4
 have hbl:body.length=48+16*who.length:=by rw[w4,entB_len]
 obtain⟨n0,n8,n16',n40⟩:=ent_nums sq real mono K _ (prs (fun i=>((Mk.kn m (who.getD i 0)).at_:Int)) (fun i=>Mk.sum m (Mk.kn m (who.getD i 0)).text) who.length) hsq r3 r4 hX
 have hit:=fun j hj=>ent_items sq real mono K ((xr ((listL L).map fun q=>pay q.1 q.2):Nat):Int) (fun i=>((Mk.kn m (who.getD i 0)).at_:Int)) (fun i=>Mk.sum m (Mk.kn m (who.getD i 0)).text) who.length j hj hf hg
 have hKK:=fun j hj=>ent_K sq real mono K ((xr ((listL L).map fun q=>pay q.1 q.2):Nat):Int) (prs (fun i=>((Mk.kn m (who.getD i 0)).at_:Int)) (fun i=>Mk.sum m (Mk.kn m (who.getD i 0)).text) who.length) j hj
 rw[←w4]at n0 n8 n16' n40 hit hKK
 have hN:itN body=who.length:=by unfold itN;omega
 have hris:risB (itA body) who.length=true:=by
  rw[risB_cong (fun j hj=>(hit j hj).1)]
  refine risB_of fun j hj=>?_
  have h5:=List.pairwise_iff_getElem.1 w2 j (j+1) (by omega) (by omega) (by omega)
  try dsimp only
  rw[getD_lt (by omega),getD_lt (by omega)]
  omega
 have hec:ecode l a 3 48 16=0:=by
  unfold ecode
  rw[if_neg (by omega),c2,h1,if_neg (by decide),c4,hbl,if_neg (by omega)]
 have hcode:entC0 l a=0:=by
  unfold entC0
  rw[if_neg (by omega),c4,n0,if_neg hsq0,hN,hris]
  rfl
 obtain⟨t1,t2,t3⟩:=told_yes hcode
 rw[c4]at t2 t3
 have hec9:ecode9 H l l.length a=0:=by
  unfold ecode9
  rw[if_pos ⟨by rw[h0];omega,by omega⟩,hcode]
 have hP: ∀j (hj:j<who.length),payP l (itA body) j=(Mk.kn m who[j]).text:=fun j hj=>by
  show bpay l (itA body j).toNat 1 6=_
  rw[(hit j hj).1]
  try dsimp only
  rw[getD_lt hj,Int.toNat_natCast]
  exact(hrd _ (List.getElem_mem hj)).2.2.1
 have hrows:rowsL (payP l (itA body)) who.length=who.map fun x=>(Mk.kn m x).text:=rowsL_get hP
 have hic0: ∀j,j<who.length→icode H l l.length (itA body) (itH body) j=0:=fun j hj=>by
  obtain⟨p1,p2,p3,p4⟩:=hrd _ (List.getElem_mem hj)
  have e1:itA body j=((Mk.kn m who[j]).at_:Int):=by rw[(hit j hj).1];(try dsimp only);rw[getD_lt hj]
  have e2:itH body j=Mk.sum m (Mk.kn m who[j]).text:=by rw[(hit j hj).2];(try dsimp only);rw[getD_lt hj]
  rw[icode_split e1 p1 (p2.trans e2.symm),p3]
  obtain⟨p,_,e,fl⟩:=htext _ (List.getElem_mem hj)
  rw[e]
  exact(split_pay fl).1
 have hrc:rcode H l l.length a=0:=by
  unfold rcode
  rw[t3,hN,c4]
  refine(rc_of H l l.length _ who.length (itA body) (itH body) _).e hec9 (by omega) hic0 ?_
  rw[t1,c4,n40,hrows,xr_perm w3]
 unfold recP
 rw[if_pos hrc]
 refine⟨hrc,?_,?_,?_,fun j hj=>?_,fun x=>?_⟩
 ·show eNum l a 0=sq;rw[t1,c4,n0]
 ·show eNum l a 8=real;rw[t1,c4,n8]
 ·show eNum l a 16=mono;rw[t1,c4,n16']
 ·show eK l a j=K j;rw[t2];exact hKK j hj
 ·show x∈prsL (payP l (itA (bodyL l a))) (eN l a)↔_
  rw[t3,hN,c4]
  have hpl:prsL (payP l (itA body)) who.length=(who.map fun x=>(Mk.kn m x).text).map fun t=>(splitN t,splitV t):=by
   rw[←hrows]
   unfold prsL rowsL
   rw[List.map_map]
   rfl
  rw[hpl]
  constructor
  ·intro hx
   obtain⟨t,ht,e⟩:=List.mem_map.1 hx
   obtain⟨p,hp,e2⟩:=List.mem_map.1 (w3.mem_iff.1 ht)
   obtain⟨_,s2,s3⟩:=split_pay (hok p hp).2
   rw[←e,←e2]
   try dsimp only
   rw[s2,s3]
   exact hp
  ·intro hx
   obtain⟨_,s2,s3⟩:=split_pay (hok x hx).2
   refine List.mem_map.2 ⟨pay x.1 x.2,w3.mem_iff.2 (List.mem_map.2 ⟨x,hx,rfl⟩),?_⟩
   rw[s2,s3]
end Zk
namespace Zl
open Bytes8 Ga Gb Gf Gj Gm Ma Mb Mh Na Nc Nt Za Zb Zd Zg Wa Zh Zj Zk Rn Rr Pl8
open Go1 (hcode magicB)
def stH (m:Mk)(st:Int):HD:=HD.plus (Mk.head m st) (m.depth:Int)
def stL (m:Mk)(st:Int):List Int:=(stH m st).bytes 21++m.b.drop 272
theorem stH_N (m:Mk)(st:Int)(i:Nat)(hi:i<20):(stH m st).N i=if i=1 then(m.b.length:Int)-272 else m.h.N i:=imgH_N m i hi
theorem st_ok {m:Mk}(h:Img m){st:Int}(hs:0≤st∧st≤2):(stH m st).Ok 21:=by
 have k:=imgH_ok h
 exact {cp:=k.cp,ic:=k.ic,st:=by show -9223372036854775808≤st∧st≤9223372036854775807;omega,I:=k.I,ta:=k.ta,ti:=k.ti,te:=k.te,N:=k.N}
theorem st_head {m:Mk}(h:Img m){st:Int}(hs:0≤st∧st≤2):(Mk.head m st).Ok 20:=by
 have k:=head_ok h
 exact {cp:=k.cp,ic:=k.ic,st:=by show -9223372036854775808≤st∧st≤9223372036854775807;omega,I:=k.I,ta:=k.ta,ti:=k.ti,te:=k.te,N:=k.N}
theorem st_len {m:Mk}(h:Img m)(st:Int):(stL m st).length=m.b.length:=by
 have:=h.lens
 unfold stL
 rw[List.length_append,HD.bytes_len,List.length_drop]
 omega
theorem st_says {m:Mk}(h:Img m){st:Int}(hs:0≤st∧st≤2):Says (hdOf (stL m st)) (stH m st):=
 hd_back (stH m st) (st_ok h hs) (by show 0≤st∧st<256;omega) (m.b.drop 272)
theorem st_fcode {m:Mk}(h:Img m){st:Int}(hs:0≤st∧st≤2)(N:Int):fcode (stH m st) N=fcode (imgH m) N:=by
 have e: ∀i,(stH m st).N i=(imgH m).N i:=fun i=>rfl
 have e2:stB (stH m st).st=stB (imgH m).st:=by
  show stB st=stB 1
  have:st=0∨st=1∨st=2:=by omega
  rcases this with h|h|h<;>subst h<;>rfl
 unfold fcode endV endB
 rw[e2]
 rfl
theorem st_hcode {m:Mk}(h:Img m){st:Int}(hs:0≤st∧st≤2):hcode (stL m st) m.b.length=0:=by
 have hl:=h.lens
 unfold hcode
 rw[if_neg (by omega),show magicB (stL m st)=true from magic_back _ _ _,if_neg (by simp),(st_says h hs).fcode,st_fcode h hs,img_fcode h _ (by omega)]
theorem st_end {m:Mk}(h:Img m){st:Int}(hs:0≤st∧st≤2):endV (hdOf (stL m st))=(m.b.length:Int)∧endB (hdOf (stL m st))=true:=by
 have s:=st_says h hs
 have e0:=(s.N 0 (by decide)).trans (stH_N m st 0 (by decide))
 have e1:=(s.N 1 (by decide)).trans (stH_N m st 1 (by decide))
 obtain⟨l1,l2,l3⟩:=h.lens
 rw[if_neg (by decide),h.hg.n0]at e0
 rw[if_pos rfl]at e1
 unfold endV endB
 rw[e0,e1]
 constructor
 ·split<;>omega
 ·simp;omega
theorem st_chase {m:Mk}{n0:Nat}{os:List O}{hs:Nat→List Nat}{mi:List Nat}{es:List (Nat×List Int)}(k:Kept m n0 os hs mi es){st:Int}(ht:0≤st∧st≤2):
 chase (hdOf (stL m st)) (stL m st) m.b.length ((hdOf (stL m st)).N 8) 14 2 (m.b.length+1) [] ((hdOf (stL m st)).N 11).toNat 0=(toI mi,0)∧(hdOf (stL m st)).N 8=(n0:Int):=by
 have hI:=k.good.img
 have s:=st_says hI ht
 have hL:=st_len hI st
 have e0:=(s.N 0 (by decide)).trans (stH_N m st 0 (by decide))
 rw[if_neg (by decide),hI.hg.n0]at e0
 have e8:=(s.N 8 (by decide)).trans (stH_N m st 8 (by decide))
 rw[if_neg (by decide),k.n8]at e8
 have e11:=(s.N 11 (by decide)).trans (stH_N m st 11 (by decide))
 rw[if_neg (by decide),k.n11]at e11
 refine⟨?_,e8⟩
 rw[e8,e11,Int.toNat_natCast]
 have hl:stL m st=(stH m st).bytes 21++enc os:=by unfold stL;rw[k.hold.rep.rep.eq]
 have q:=chase_arr (h:=hdOf (stL m st)) hl (by rw[HD.bytes_len]) k.hold.rep.ok e0 k.hold.mn k.rise (fun x hx=>by have:=k.bd x hx;rw[hL];omega) (n0:Int) 14 2 (m.b.length+1) 0 0 (Nat.zero_le _) (Nat.zero_le _) (by show((0:Nat):Int)≤_;omega) (fun _=>rfl) (fun h=>absurd h (by decide)) (Nat.zero_le _) (by rw[hL];omega)
 rw[hL]at q
 have e:m.main.getD 0 0=m.main.headD 0:=by cases m.main<;>rfl
 rw[e]at q
 refine Eq.trans q ?_
 unfold told
 rw[if_pos (by have:=k.len;omega),Int.toNat_natCast,List.take_of_length_le (by have:=k.len;omega)]
theorem st_rec {m:Mk}{rs:List RR}{os:List O}{hs:Nat→List Nat}{mi:List Nat}{es:List (Nat×List Int)}(k:Kept m rs.length os hs mi es)(q:Recs m rs es){st:Int}(ht:0≤st∧st≤2)(i:Nat)(hi:i<rs.length):
 rcode (hdOf (stL m st)) (stL m st) m.b.length (mi.getD i 0)=0∧(recP (hdOf (stL m st)) (stL m st) m.b.length (mi.getD i 0)).s=m.h.N 9-rs.length+i+1∧(recP (hdOf (stL m st)) (stL m st) m.b.length (mi.getD i 0)).r=rs[i].2.1∧(recP (hdOf (stL m st)) (stL m st) m.b.length (mi.getD i 0)).m=rs[i].2.2.1∧(∀j,j<16→(recP (hdOf (stL m st)) (stL m st) m.b.length (mi.getD i 0)).K j=rs[i].2.2.2 j)∧(∀x,x∈(recP (hdOf (stL m st)) (stL m st) m.b.length (mi.getD i 0)).pl↔x∈listL rs[i].1):=by
 have hI:=k.good.img
 have s:=st_says hI ht
 have hL:=st_len hI st
 have e0:=(s.N 0 (by decide)).trans (stH_N m st 0 (by decide))
 rw[if_neg (by decide),hI.hg.n0]at e0
 have hl:stL m st=(stH m st).bytes 21++enc os:=by unfold stL;rw[k.hold.rep.rep.eq]
 have r:=rec_read k q (H:=hdOf (stL m st)) hl (by rw[HD.bytes_len]) e0 s.ic (fun i hi=>s.I i (by omega)) i hi
 rw[hL]at r
 exact r
end Zl
namespace Jf
open Bytes8 Blk8 Own8 OwnE Rows2 Ga Gb Ma Kf Na Np Nr Ns Nt Nu Rc Rr Wa Pr8 Dc Je Zs
def RowAt (w:World)(A:Option Addr)(i:Nat)(r:RecP):Prop:= ∃(b:Nat) (F:Option Addr) (c:Nat),A=some ⟨b,0,none⟩∧b<w.heap.size∧w.rangeAt b (i*20) (recL r.s r.r r.m r.K (.slice F r.n c))∧Prs w F r.pl∧r.Ok
theorem RowAt.below {w w':World}{A:Option Addr}{i:Nat}{r:RecP}(h:RowAt w A i r)(hb:Below w.heap.size w w'):RowAt w' A i r:=by
 obtain⟨b,F,c,e,hl,hr,hp,ok⟩:=h
 exact⟨b,F,c,e,Nat.lt_of_lt_of_le hl hb.size,fun j v hj=>(World.cell?_of_block (a:=⟨b,i*20+j,none⟩) (hb.block b hl)).trans (hr j v hj),hp.below hb,ok⟩
theorem own_range {w:World}{B n c:Nat}{A:Option Addr}{xs:List Value}(h:OwnE 64 20 w B A n c xs)(i:Nat)(hi:i<n): ∃b,A=some ⟨b,0,none⟩∧b<w.heap.size∧w.rangeAt b (i*20) ((xs.drop (20*i)).take 20):=by
 have hl:xs.length=n*20:=OwnE.len h
 obtain⟨b,e,_,hlt,_⟩:=OwnE.cell h (i:=20*i) (by omega)
 refine⟨b,e,hlt,fun j v hj=>?_⟩
 have hj2:j<20:=by
  have:=(List.getElem?_eq_some_iff.1 hj).1
  rw[List.length_take]at this;omega
 rw[List.getElem?_take_of_lt hj2,List.getElem?_drop]at hj
 rw[Nat.mul_comm i 20]
 obtain⟨b2,h1,_,_,h2⟩:=OwnE.cell h (i:=20*i+j) (List.getElem?_eq_some_iff.1 hj).1
 rw[e]at h1
 injection h1 with h1
 injection h1 with h1
 subst h1
 exact h2.trans hj
theorem rowAt_recs {w:World}{B n c:Nat}{A:Option Addr}{xs:List Value}{R:List RecP}(h:OwnE 64 20 w B A n c xs)(q:RecsR w A xs R)(i:Nat)(hi:i<R.length):RowAt w A i R[i]:=by
 have hl:xs.length=n*20:=OwnE.len h
 have hl2:=q.len
 obtain⟨b,e,hlt,hr⟩:=own_range h i (by omega)
 obtain⟨F,cf,e1,e2,e3,_⟩:=q.at_ i hi
 rw[e1]at hr
 exact⟨b,F,cf,e,hlt,hr,e2,e3⟩
def rowP (b0:Int)(i:Nat)(r:Zj.RR):RecP:=⟨b0+i+1,r.2.1,r.2.2.1,r.2.2.2,r.1.length,r.1⟩
theorem rowAt_rows {w:World}{B n c:Nat}{A:Option Addr}{xs:List Value}{gq:Nat}{F:Nat→Prop}{b0:Int}{rs:List Zj.RR}(h:OwnE 64 20 w B A n c xs)(q:RowsR w gq F A xs b0 rs)(i:Nat)(hi:i<rs.length)(hK:IdOk rs[i].2.2.2):RowAt w A i (rowP b0 i rs[i]):=by
 have hl:xs.length=n*20:=OwnE.len h
 have hl2:=q.len
 obtain⟨b,e,hlt,hr⟩:=own_range h i (by omega)
 obtain⟨Ar,nr,cr,e1,e2,e3,e4,_⟩:=q.at_ i hi
 rw[e1]at hr
 subst e2
 exact⟨b,Ar,cr,e,hlt,hr,e4,⟨hK,rfl,by show rs[i].1.length≤_;omega⟩⟩
structure SameP (p q:RecP):Prop where
 s:p.s=q.s
 r:p.r=q.r
 m:p.m=q.m
 K: ∀j,j<16→p.K j=q.K j
 pl: ∀y,y∈p.pl↔y∈q.pl
attribute [local irreducible] HD.cells wpList Code.wp
theorem samerows_yes (A B:Option Addr)(n c d:Nat)(Pa Pb:Nat→RecP)(w:World)(hA: ∀i,i<n→RowAt w A i (Pa i))(hB: ∀i,i<n→RowAt w B i (Pb i))(hs: ∀i,i<n→SameP (Pa i) (Pb i))(hn:n≤1000000):
 Calls Tryz.prog 56 #[.slice A n c,.slice B n d] w fun e w'=>e= .returned (.bool true)∧Below w.heap.size w w':=by
 have HA:=Lib.hid hA
 have HB:=Lib.hid hB
 have HS:=Lib.hid hs
 have S0:=Lib.hid (Below.refl w.heap.size w)
 have hne:((n:Int)!=(n:Int))=false:=by simp
 clear hA hB hs
 go_enter Tryz.func56,Tryz.ntmps56
 go_wp2_with fail
 go_loopw [5] (fun i wr=> ∃k:Nat,k≤n∧i= .int .i64 (k:Int)∧Hid (Below w.heap.size w wr)) (fun i _=>n-Rn.natOf i)
 case atStart=>exact⟨0,Nat.zero_le _,rfl,S0⟩
 case round=>
  obtain⟨k,hk,rfl,hbr⟩:=hrel
  by_cases hlt:k<n
  ·have dd1:decide ((k:Int)<(n:Int))=true:=by simp;omega
   have hki:(k:Int)<(n:Int):=by omega
   have hw1:IntKind.i64.wrap ((k:Int)+1)=((k+1:Nat):Int):=by rw[IntKind.wrap_i64];omega
   obtain⟨ba,Fa,ca,rfl,hla,hra,hpa,oka⟩:=(HA.out k hlt).below hbr.out
   obtain⟨bb,Fb,cb,rfl,hlb,hrb,hpb,okb⟩:=(HB.out k hlt).below hbr.out
   obtain⟨s1,s2,s3,s4,s5⟩:=HS.out k hlt
   rw[←s1,←s2,←s3,←recL_cong s4]at hrb
   have HKk:=Lib.hid oka.K
   have la:=oka.len;have na:=oka.n;have lb:=okb.len;have nb:=okb.n
   have HRa:=Lib.hid hra
   have HRb:=Lib.hid hrb
   have HPa:=Lib.hid hpa
   have HPb:=Lib.hid hpb
   clear HA HB HS s1 s2 s3 s4 oka okb hra hrb hpa hpb
   generalize Pa k=p at*
   generalize Pb k=q at*
   obtain⟨sq,real,mono,K,kk,pl⟩:=p
   obtain⟨_,_,_,_,nr,L⟩:=q
   dsimp only at*
   go_upto_region 6 with fail
   have D8:=Lib.hid (show Below wr.heap.size wr wr.drew from(Below.refl wr.heap.size wr).drew)
   have HS:=Lib.hid fun(W:World) (hW:Below wr.heap.size wr W)=>show W.rangeAt ba (k*20) (recL sq real mono K (.slice Fa kk ca))∧W.rangeAt bb (k*20) (recL sq real mono K (.slice Fb nr cb))from
    ⟨fun j v hj=>(World.cell?_of_block (a:=⟨ba,k*20+j,none⟩) (hW.block ba hla)).trans (HRa.out j v hj),fun j v hj=>(World.cell?_of_block (a:=⟨bb,k*20+j,none⟩) (hW.block bb hlb)).trans (HRb.out j v hj)⟩
   have HSm:=Lib.hid fun(W:World) (hW:Below wr.heap.size wr W)=>samerow_yes sq real mono K HKk.out Fa Fb kk nr ca cb pl L W (HPa.out.below hW) (HPb.out.below hW) la lb na nb s5
   refine wp_region_noPanic ?_
   refine wp_region_held_drew (S:=fun W:World=>W.rangeAt ba (k*20) (recL sq real mono K (.slice Fa kk ca))∧W.rangeAt bb (k*20) (recL sq real mono K (.slice Fb nr cb))) (by kernel_rfl) (by exact HS.out _ D8.out) (fun hHeld=>?_)
   refine tk (i:=0) (oi:=⟨some 17,_,_,_,_,_⟩) (v:=?_) rfl (Or.inl ⟨by rfl,?_⟩) ?_
   rotate_left
   ·intro W hSw;go_simp;try (with_reducible rfl)
   try simp only[Act.put,sA,sZ,sS]
   refine tk (i:=1) (oi:=⟨some 18,_,_,_,_,_⟩) (v:=?_) rfl (Or.inl ⟨by rfl,?_⟩) ?_
   rotate_left
   ·intro W hSw;go_simp;try (with_reducible rfl)
   try simp only[Act.put,sA,sZ,sS]
   refine tk (i:=2) (oi:=⟨some 19,_,_,_,_,_⟩) (v:=?_) rfl (Or.inl ⟨by rfl,?_⟩) ?_
   rotate_left
   ·intro W hSw;go_simp;try (with_reducible rfl)
   try simp only[Act.put,sA,sZ,sS]
   refine tk (i:=3) (oi:=⟨some 20,_,_,_,_,_⟩) rfl (yieldsIf_load_mid (by rfl) _ _ rfl _ _ rfl _ _ (fun _ h=>h.1) Tryz.underlying64 rfl (recInfo _ _ _ _ _)) ?_
   try simp only[Act.put,sA,sZ,sS]
   refine tk (i:=4) (oi:=⟨some 21,_,_,_,_,_⟩) (v:=?_) rfl (Or.inl ⟨by rfl,?_⟩) ?_
   rotate_left
   ·intro W hSw;go_simp;try (with_reducible rfl)
   try simp only[Act.put,sA,sZ,sS]
   refine tk (i:=5) (oi:=⟨some 22,_,_,_,_,_⟩) (v:=?_) rfl (Or.inl ⟨by rfl,?_⟩) ?_
   rotate_left
   ·intro W hSw;go_simp;try (with_reducible rfl)
   try simp only[Act.put,sA,sZ,sS]
   refine tk (i:=6) (oi:=⟨some 23,_,_,_,_,_⟩) (v:=?_) rfl (Or.inl ⟨by rfl,?_⟩) ?_
   rotate_left
   ·intro W hSw;go_simp;try (with_reducible rfl)
   try simp only[Act.put,sA,sZ,sS]
   refine tk (i:=7) (oi:=⟨some 24,_,_,_,_,_⟩) rfl (yieldsIf_load_mid (by rfl) _ _ rfl _ _ rfl _ _ (fun _ h=>h.2) Tryz.underlying64 rfl (recInfo _ _ _ _ _)) ?_
   try simp only[Act.put,sA,sZ,sS]
   refine wpAnyH_ready (rs:=[8]) (by kernel_rfl) (by simp) ?_
   refine AllReadyH.cons (o:=⟨some 25,_,_,_,_,_⟩) rfl (fun KK hKK=>?_) AllReadyH.nil
   go_simp
   ((with_reducible refine(HSm.out _ D8.out).mono ?_);rintro e w9 ⟨rfl,hb9⟩;have B9:=Lib.hid (D8.out.trans (hb9.mono D8.out.size));clear hb9)
   try go_wp2_with fail
   refine hKK.out _ _ (by exact(HS.out _ B9.out)) (fun hHeld=>?_)
   clear hKK KK
   try simp only[Act.put,sA,sZ,sS]
   refine tk (i:=9) (oi:=⟨some 26,_,_,_,_,_⟩) (v:=?_) rfl (Or.inl ⟨by rfl,?_⟩) ?_
   rotate_left
   ·intro W hSw;go_simp;try (with_reducible rfl)
   try simp only[Act.put,sA,sZ,sS]
   refine wpAnyH_done (by kernel_rfl) ?_ _
   refine NoPanic.normal ?_
   go_wp2_with fail
   go_roundw
   case rel=>exact⟨k+1,hlt,rfl,Lib.hid (hbr.out.trans (B9.out.mono hbr.out.size))⟩
   case measure=>simp[Rn.natOf];omega
  ·have dd1:decide ((k:Int)<(n:Int))=false:=by simp;omega
   go_wp2_with fail
   go_ret
   exact⟨rfl,hbr.out⟩
end Jf
namespace Jg
open Bytes8 Blk8 Own8 OwnM OwnE Ob Od Ga Gb Gj Ma Na Np Ns Nt Nu Rc Rn Rr Zg Zh Zj Zl Jb Je Yp Yg
open Ri (ecode9)
open Go1 (hcode)
theorem rec_n {h:HD}{l:List Int}{n a:Nat}(hz:rcode h l n a=0):1≤(recP h l n a).n∧(recP h l n a).n≤16:=by
 have h16:=rcode_short hz
 unfold recP
 rw[if_pos hz]
 refine⟨?_,h16⟩
 show 1≤eN l a
 have k:=rc_of h l n (ecode9 h l n a) (eN l a) (itA (bodyL l a)) (itH (bodyL l a)) (eNum l a 40)
 have h9:ecode9 h l n a=0:=by
  by_cases h1:ecode9 h l n a=0
  ·exact h1
  ·have e:rcode h l n a=ecode9 h l n a:=k.a h1
   rw[hz]at e
   exact absurd e.symm h1
 unfold ecode9 at h9
 by_cases h2:h.N 0≤(a:Int)∧a<n
 ·rw[if_pos h2]at h9
  obtain⟨_,_,t3⟩:=told_yes h9
  rw[t3]
  unfold entC0 at h9
  by_cases h3:ecode l a 3 48 16=0
  ·unfold ecode at h3
   by_cases h4:code l a≠0
   ·rw[if_pos h4]at h3;exact absurd h3 h4
   ·rw[if_neg h4]at h3
    by_cases h5:kindL l a≠3
    ·rw[if_pos h5]at h3;cases h3
    ·rw[if_neg h5]at h3
     by_cases h6:(bodyL l a).length<48+16∨(bodyL l a).length%16≠0
     ·rw[if_pos h6]at h3;cases h3
     ·unfold itN;omega
  ·rw[if_pos h3]at h9;exact absurd h9 h3
 ·rw[if_neg h2]at h9;cases h9
def JKept (m:Mk)(st:Int)(mi:List Nat)(w:World)(e:Ending)(w':World):Prop:= ∃(gf gv:Nat) (A2:Option Addr) (c2:Nat) (P:Option Addr) (cp:Nat),e= .returned (.tuple #[.pointer (some ⟨gf,0,none⟩),.int .i64 0])∧FileAt w' gf gv (hdOf (stL m st)) A2 m.b.length c2 (stL m st) P mi.length cp (toI mi) 0∧Below w.heap.size w w'
theorem jopen_st {m:Mk}{n0:Nat}{os:List Za.O}{hs:Nat→List Nat}{mi:List Nat}{es:List (Nat×List Int)}(k:Kept m n0 os hs mi es){st:Int}(ht:0≤st∧st≤2)(A:Option Addr)(c:Nat)(w:World)(hb:Bytes w A (stL m st))(hc:m.b.length≤c):
 Calls Tryz.prog 42 #[.slice A m.b.length c] w (JKept m st mi w):=by
 have hI:=k.good.img
 have hlens:=hI.lens
 have hL:=st_len hI st
 obtain⟨e1,e2⟩:=st_end hI ht
 have hch:=(st_chase k ht).1
 refine(jopen_fine (stL m st) A m.b.length c w hb hL (by omega) hc (st_hcode hI ht) m.b.length e1 e2 (Nat.le_refl _) (hdOf_ok hb.1 21)).mono ?_
 rintro e w' ⟨gf,gv,A2,c2,P,q,cp,rfl,hf,hb'⟩
 rw[List.take_of_length_le (by omega),hch]at hf
 dsimp only at hf
 have hq:q=mi.length:=by have:=hf.len;rw[List.length_map]at this;exact this.symm
 subst hq
 exact⟨gf,gv,A2,c2,P,cp,rfl,hf,hb'⟩
attribute [local irreducible] HD.cells wpList Code.wp
theorem first_jfile (w:World):Calls Tryz.prog 41 #[] w fun e w'=>e= .returned (.bool true)∧Below w.heap.size w w':=by
 have HI:=Lib.hid (image_n none 0 0 (fun _=>0) 0 w (fun i hi=>absurd hi (Nat.not_lt_zero i)) (by decide) (by decide))
 unfold ImagedN at HI
 go_enter Tryz.func41,Tryz.ntmps41
 have HOp:=Lib.hid fun(m:Mk) (n:Nat) (hg:GoodN m n 0) (A:Option Addr) (c:Nat) (W:World) (B:Nat) (ho:Own8.Own W B A m.b.length c (imgB m))=>show Calls Tryz.prog 42 #[.slice A m.b.length c] W fun e w'=> ∃(gf gv:Nat) (h:HD) (A2:Option Addr) (E c2:Nat) (l:List Int) (P:Option Addr) (cp:Nat),e= .returned (.tuple #[.pointer (some ⟨gf,0,none⟩),.int .i64 0])∧FileAt w' gf gv h A2 E c2 l P 0 cp [] 0∧Below W.heap.size W w' from by
  obtain⟨rs,hrs,hrl⟩:=hg.rch
  have hn0:n=0:=by have:=hg.le;omega
  have hr0:rs=[]:=List.eq_nil_of_length_eq_zero (by omega)
  subst hr0
  obtain⟨os,hs,mi,es,k,_⟩:=kept_recs hrs
  have hmi:mi=[]:=List.eq_nil_of_length_eq_zero k.len
  subst hmi
  refine(jopen_st k (st:=1) (by decide) A c W ho.bytes (own_cap ho).1).mono ?_
  rintro e w' ⟨gf,gv,A2,c2,P,cp,rfl,hf,hb⟩
  exact⟨gf,gv,_,A2,_,c2,_,P,cp,rfl,hf,hb⟩
 go_wp2_with(first
  |(go_at_call 14;((refine HI.out.mono ?_);rintro e w2 ⟨A,c,m,n,rfl,hg2,ho2,hb2⟩;have HG:=Lib.hid (HOp.out m n hg2 A c w2 _ ho2);have B2:=Lib.hid hb2;clear hg2 ho2 hb2))
  |(go_at_call 42;((refine HG.out.mono ?_);rintro e w3 ⟨gf,gv,h,A2,E,c2,l,P,cp,rfl,hf,hb3⟩;have B3:=Lib.hid (B2.out.trans (hb3.mono B2.out.size));have HL:=Lib.hid (len_any hf);have HC:=Lib.hid (code_any hf);clear hf hb3))
  |(go_at_call 44;((refine HL.out.mono ?_);rintro e w4 ⟨rfl,rfl⟩))
  |(go_at_call 45;((refine HC.out.mono ?_);rintro e w5 ⟨rfl,rfl⟩))
  |fail)
 go_ret
 exact⟨rfl,B3.out⟩
end Jg
end Go.Proofs.YtjecmgkmcfkcjaaGreat
