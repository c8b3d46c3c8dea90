/-
  Texts beneath the proof.
-/
import Derived.Test.YtiddkgcafpaekaaGreatJq39
set_option linter.unusedVariables false
set_option linter.unusedSimpArgs false
set_option maxRecDepth 100000
set_option maxHeartbeats 8000000
open Go.ChangeShapes Go.WideShapes Go.ChangeAt Go.RowKit
namespace Go.Proofs.YtiddkgcafpaekaaGreat
namespace Zk
open Bytes8 Blk8 Ya Ob Ga Ma Mb Mg Na Nh Np Nq Ns Nt Nu Fa Yd Yc Yp Yj Za Zb Zc Ze Zj Pr8 Rj Rm Rr
open Rd (dcode dz)
open Ri (ecode9)
abbrev W64 (x:Int):Prop:=0≤x∧x≤18446744073709551615
theorem ent_split (s r m:Int)(K:Nat→Int)(x:Int)(ps:List Int):entB s r m K x ps=nums [s,r,m]++(idL K++(nums [x]++nums ps)):=by unfold entB;simp
theorem ent_nums (s r m:Int)(K:Nat→Int)(x:Int)(ps:List Int)(hs:W64 s)(hr:W64 r)(hm:W64 m)(hx:W64 x):
 u8 (entB s r m K x ps) 0=s∧u8 (entB s r m K x ps) 8=r∧u8 (entB s r m K x ps) 16=m∧u8 (entB s r m K x ps) 40=x:=by
 rw[ent_split]
 refine⟨nums_at [s,r,m] _ 0 0 rfl (by simp) hs,nums_at [s,r,m] _ 1 8 rfl (by simp) hr,nums_at [s,r,m] _ 2 16 rfl (by simp) hm,?_⟩
 have h:=u8_app (nums [s,r,m]++idL K) (nums [x]++nums ps) 40 0 (by rw[List.length_append,nums_len];rfl)
 rw[List.append_assoc]at h
 rw[h]
 exact nums_at [x] _ 0 0 rfl (by simp) hx
theorem ent_K (s r m:Int)(K:Nat→Int)(x:Int)(ps:List Int)(i:Nat)(hi:i<16):itK (entB s r m K x ps) i=K i:=by
 unfold itK
 rw[if_pos hi,ent_split,List.getD_eq_getElem?_getD,List.getElem?_append_right (by rw[nums_len];simp),nums_len]
 rw[show 24+i-8* [s,r,m].length=i by simp,List.getElem?_append_left (by simpa [idL]using hi)]
 unfold idL
 rcases i with _|_|_|_|_|_|_|_|_|_|_|_|_|_|_|_|i
 all_goals first|rfl|omega
theorem ent_items (s r m:Int)(K:Nat→Int)(x:Int)(f g:Nat→Int)(n i:Nat)(hi:i<n)(hf:Wd f n)(hg:Wd g n):
 itA (entB s r m K x (prs f g n)) i=f i∧itH (entB s r m K x (prs f g n)) i=g i:=by
 unfold itA itH entB
 have hl:(nums [s,r,m]++idL K++nums [x]).length=48:=by rw[List.length_append,List.length_append,nums_len,nums_len];rfl
 have h:=prs_read f g n i hi hf hg []
 rw[List.append_nil]at h
 rw[u8_app _ _ 48 _ hl,Nat.add_assoc,u8_app _ _ 48 _ hl]
 exact h
theorem xr_perm {l m:List (List Int)}(h:l.Perm m):xr l=xr m:=by
 induction h with
 |nil=>rfl
 |cons x _ ih=>rw[xr_cons,xr_cons,ih]
 |swap x y l=>rw[xr_cons,xr_cons,xr_cons,xr_cons,Nat.xor_assoc,Nat.xor_assoc,Nat.xor_comm (lookN x)]
 |trans _ _ h1 h2=>exact h1.trans h2
theorem risB_of {f:Nat→Int}: ∀ {n:Nat},(∀i,i+1<n→f i<f (i+1))→risB f n=true
 |0,_=>rfl
 |1,_=>rfl
 |n+2,h=>by
  unfold risB
  rw[risB_of (n:=n+1) (fun i hi=>h i (by omega))]
  simpa using h n (by omega)
theorem rowsL_get {who:List Nat}{T:Nat→List Int}{P:Nat→List Int}(h: ∀i (hi:i<who.length),P i=T who[i]):rowsL P who.length=who.map T:=by
 unfold rowsL
 refine List.ext_getElem (by simp) fun i h1 h2=>?_
 rw[List.getElem_map,List.getElem_map,List.getElem_range]
 exact h i (by simpa using h2)
theorem key_is (H:HD)(C:Cf)(hic:H.ic=if C.keyed then 4 else 0)(hI: ∀i,i<16→H.I i=C.F i):keyB H.ic=C.keyed∧idL H.I=Cf.file C:=by
 refine⟨?_,?_⟩
 ·rw[hic]
  cases C.keyed
  ·rfl
  ·rfl
 ·unfold idL Cf.file idL
  rw[hI 0 (by decide),hI 1 (by decide),hI 2 (by decide),hI 3 (by decide),hI 4 (by decide),hI 5 (by decide),hI 6 (by decide),hI 7 (by decide),hI 8 (by decide),hI 9 (by decide),hI 10 (by decide),hI 11 (by decide),hI 12 (by decide),hI 13 (by decide),hI 14 (by decide),hI 15 (by decide)]
end Zk
namespace Zl
open Bytes8 Ga Gb Gf Gj Gm Ma Mb Mh Na Nc Nt Za Zb Zj Rn Rr
open Go1 (hcode magicB)
def stH (m:Mk)(st:Int):HD:=HD.plus (Mk.head m st) (m.depth:Int)
def stL (m:Mk)(st:Int):List Int:=(stH m st).bytes 21++m.b.drop 272
theorem stH_N (m:Mk)(st:Int)(i:Nat)(hi:i<20):(stH m st).N i=if i=1 then(m.b.length:Int)-272 else m.h.N i:=imgH_N m i hi
theorem st_ok {m:Mk}(h:Img m){st:Int}(hs:0≤st∧st≤2):(stH m st).Ok 21:=by
 have k:=imgH_ok h
 exact {cp:=k.cp,ic:=k.ic,st:=by show -9223372036854775808≤st∧st≤9223372036854775807;omega,I:=k.I,ta:=k.ta,ti:=k.ti,te:=k.te,N:=k.N}
theorem st_head {m:Mk}(h:Img m){st:Int}(hs:0≤st∧st≤2):(Mk.head m st).Ok 20:=by
 have k:=head_ok h
 exact {cp:=k.cp,ic:=k.ic,st:=by show -9223372036854775808≤st∧st≤9223372036854775807;omega,I:=k.I,ta:=k.ta,ti:=k.ti,te:=k.te,N:=k.N}
theorem st_len {m:Mk}(h:Img m)(st:Int):(stL m st).length=m.b.length:=by
 have:=h.lens
 unfold stL
 rw[List.length_append,HD.bytes_len,List.length_drop]
 omega
theorem st_says {m:Mk}(h:Img m){st:Int}(hs:0≤st∧st≤2):Says (hdOf (stL m st)) (stH m st):=
 hd_back (stH m st) (st_ok h hs) (by show 0≤st∧st<256;omega) (m.b.drop 272)
theorem st_fcode {m:Mk}(h:Img m){st:Int}(hs:0≤st∧st≤2)(N:Int):fcode (stH m st) N=fcode (imgH m) N:=by
 have e: ∀i,(stH m st).N i=(imgH m).N i:=fun i=>rfl
 have e2:stB (stH m st).st=stB (imgH m).st:=by
  show stB st=stB 1
  have:st=0∨st=1∨st=2:=by omega
  rcases this with h|h|h<;>subst h<;>rfl
 unfold fcode endV endB
 rw[e2]
 rfl
theorem st_hcode {m:Mk}(h:Img m){st:Int}(hs:0≤st∧st≤2):hcode (stL m st) m.b.length=0:=by
 have hl:=h.lens
 unfold hcode
 rw[if_neg (by omega),show magicB (stL m st)=true from magic_back _ _ _,if_neg (by simp),(st_says h hs).fcode,st_fcode h hs,img_fcode h _ (by omega)]
theorem st_end {m:Mk}(h:Img m){st:Int}(hs:0≤st∧st≤2):endV (hdOf (stL m st))=(m.b.length:Int)∧endB (hdOf (stL m st))=true:=by
 have s:=st_says h hs
 have e0:=(s.N 0 (by decide)).trans (stH_N m st 0 (by decide))
 have e1:=(s.N 1 (by decide)).trans (stH_N m st 1 (by decide))
 obtain⟨l1,l2,l3⟩:=h.lens
 rw[if_neg (by decide),h.hg.n0]at e0
 rw[if_pos rfl]at e1
 unfold endV endB
 rw[e0,e1]
 constructor
 ·split<;>omega
 ·simp;omega
end Zl
namespace Jl
open Bytes8 Blk8 Ya Ob Ga Gb Ma Mb Mg Mh Na Nc Nh Nl Np Nq Ns Nt Nu Fa Yd Yc Yp Yg Yh Yj Za Zb Zc Zd Ze Zg Zh Zj Zk Pr8 Ps8 Pl8 Rk Rm Rn Rr Va Wa
open Rd (dcode dz)
open Ri (ecode9)
open Rg (arcode)
open Go1 (hcode magicB)
structure Std (G:Nat→Prop)(l:List Int)(os:List O):Prop where
 ok: ∀o∈os,o.Ok
 at_: ∀a o,obj 272 os a=some o→G a→ ∃p q,l=p++(o.enc++q)∧p.length=a
theorem Std.read {G:Nat→Prop}{l:List Int}{os:List O}(r:Std G l os){a:Nat}{o:O}(ho:obj 272 os a=some o)(hg:G a):code l a=0∧kindL l a=o.k∧sizeL l a=(16+o.body.length:Nat)∧bodyL l a=o.body:=by
 obtain⟨p,q,e,hp⟩:=r.at_ a o ho hg
 have hk:=r.ok o (obj_mem _ _ _ _ ho)
 rw[e]
 exact put_read p q o.body o.k a hp (obj_8 _ _ _ _ (by decide) ho) hk.k.1 hk.k.2 (by have:=hk.n;omega)
theorem Std.lt {G:Nat→Prop}{l:List Int}{os:List O}(r:Std G l os){a:Nat}{o:O}(ho:obj 272 os a=some o)(hg:G a):272≤a∧a+16+o.body.length≤l.length:=by
 obtain⟨p,q,e,hp⟩:=r.at_ a o ho hg
 have h1:=obj_bd _ _ _ _ ho
 have h2:=o.n_is
 have h3:=o.body_len
 have h4:o.enc.length=o.n:=rfl
 rw[e,List.length_append,List.length_append,h4]
 omega
theorem read_arrG {G:Nat→Prop}{l:List Int}{os:List O}(R:Std G l os){a r:Nat}{g:Nat×Nat}(hs:shp os a=some ⟨6,1+r,[],g⟩)(hr:1≤r)(hg:G a):
 ecode l a 6 8 8=0∧arX l a=wd os a 0∧arM l a=r∧ ∀j,j<r→arF (bodyL l a) j=wd os a (1+j):=by
 obtain⟨o,ho,hsh⟩:=shp_some hs
 have ok:=R.ok o (obj_mem _ _ _ _ ho)
 injection hsh with h1 h2 h3 h4
 obtain⟨c1,c2,c3,c4⟩:=R.read ho hg
 have hw: ∀j,wd os a j=o.ws.getD j 0:=fun j=>by unfold wd;rw[ho]
 have hbl:o.body.length=8*(1+r):=by rw[O.body_len,h2,h3];simp
 have he:ecode l a 6 8 8=0:=by
  unfold ecode
  rw[if_neg (by omega),c2,h1,if_neg (by decide),c4,hbl,if_neg (by omega)]
 refine⟨he,?_,?_,fun j hj=>?_⟩
 ·unfold arX
  rw[if_pos he,c4,hw]
  exact u8_body ok 0 0 (by omega) rfl
 ·unfold arM arN
  rw[if_pos he,c4,hbl]
  omega
 ·unfold arF
  rw[c4,hw]
  exact u8_body ok (1+j) _ (by omega) (by omega)
theorem data_readG {G:Nat→Prop}{m:Mk}{os:List O}{hs:Nat→List Nat}{mi:List Nat}{es:List (Nat×List Int)}(hH:Hold m os hs mi es){H:HD}{l:List Int}(R:Std G l os)(h0:H.N 0=272)(hic:H.ic=if m.C.keyed then 4 else 0)(hI: ∀i,i<16→H.I i=m.C.F i){x:Nat}(hx:x<m.datas.length)(htx:(Mk.kn m x).text≠ [])(hg:G (Mk.kn m x).at_):
 hcode9 H l l.length (Mk.kn m x).at_=0∧bnum l (Mk.kn m x).at_ 1 6 0=Mk.sum m (Mk.kn m x).text∧bpay l (Mk.kn m x).at_ 1 6=(Mk.kn m x).text∧(Mk.kn m x).at_<l.length:=by
 have D:=hH.dat x hx
 rw[kn_at hx]at htx hg⊢
 generalize m.datas[x]=d at*
 obtain⟨o,ho,hsh⟩:=shp_some D.sh
 have ok:=hH.rep.ok o (obj_mem _ _ _ _ ho)
 injection hsh with h1 h2 h3 h4
 obtain⟨c1,c2,c3,c4⟩:=R.read ho hg
 have htl:=List.length_pos_iff.2 htx
 have hbl:o.body.length=48+d.text.length:=by rw[O.body_len,h2,h3]
 have hbc:bcode l d.at_ 1 6=0:=by
  unfold bcode
  rw[if_neg (by omega),c2,h1,if_neg (by decide),c4,if_neg (by omega)]
 have hlt:=R.lt ho hg
 have h272:272≤d.at_:=hlt.1
 have hnum:bnum l d.at_ 1 6 0=Mk.sum m d.text:=by
  unfold bnum
  rw[if_pos hbc,c4,show 8*0=0 from rfl,u8_body ok 0 0 (by omega) rfl,←D.w0]
  unfold wd
  rw[ho]
 have hpay:bpay l d.at_ 1 6=d.text:=by
  unfold bpay
  rw[if_pos hbc,c4]
  unfold O.body
  rw[List.drop_left' (by rw[nums_len,h2]),h3]
 have hdc:dcode H l l.length d.at_=0:=by
  unfold dcode
  rw[if_pos ⟨by rw[h0];omega,by omega⟩,hbc]
 obtain⟨k1,k2⟩:=key_is H m.C hic hI
 refine⟨?_,hnum,hpay,by omega⟩
 unfold hcode9
 rw[if_neg (by omega),hnum,hpay,k1,k2]
 exact if_pos rfl
theorem rec_readG {G:Nat→Prop}{m:Mk}{os:List O}{hs:Nat→List Nat}{mi:List Nat}{es:List (Nat×List Int)}(hH:Hold m os hs mi es){H:HD}{l:List Int}(R:Std G l os)(h0:H.N 0=272)(hic2:H.ic=if m.C.keyed then 4 else 0)(hI2: ∀i,i<16→H.I i=m.C.F i)(hmax:l.length≤1000000)
 {a:Nat}{body:List Int}{gg:Nat×Nat}(hE:shp os a=some ⟨3,0,body,gg⟩)(hga:G a){sq:Int}(hsq:W64 sq)(hsq0:sq≠0){L:List PR}{real mono:Int}{K:Nat→Int}(hr:RROk (L,real,mono,K)){who:List Nat}(w1: ∀x∈who,x<m.datas.length)(w2:who.Pairwise (fun a b=>(Mk.kn m a).at_<(Mk.kn m b).at_))(w3:(who.map fun i=>(Mk.kn m i).text).Perm ((listL L).map fun q=>pay q.1 q.2))
 (w4:body=entB sq real mono K ((xr ((listL L).map fun q=>pay q.1 q.2):Nat):Int) (prs (fun i=>((Mk.kn m (who.getD i 0)).at_:Int)) (fun i=>Mk.sum m (Mk.kn m (who.getD i 0)).text) who.length))(hgw: ∀x∈who,G (Mk.kn m x).at_):
 rcode H l l.length a=0∧(recP H l l.length a).s=sq∧(recP H l l.length a).r=real∧(recP H l l.length a).m=mono∧(∀j,j<16→(recP H l l.length a).K j=K j)∧(∀x,x∈(recP H l l.length a).pl↔x∈listL L):=by
 obtain⟨r1,r2,r3,r4,r5⟩:=hr
 dsimp only at r1 r2 r3 r4 r5
 obtain⟨n16,hok⟩:=list_ok r1
 have hpos:listL L≠ []:=by
  unfold listL
  rw[if_pos r1]
  have hL:L≠ []:=fun h=>by unfold listE at r1;rw[if_pos h]at r1;cases r1
  obtain⟨y,hy⟩:=List.exists_mem_of_ne_nil _ hL
  exact List.ne_nil_of_mem ((sortP_mem _ y).2 ((ded_mem L y).2 hy))
 have hwl:who.length=(listL L).length:=by have:=w3.length_eq;rwa[List.length_map,List.length_map]at this
 have hw0:0<who.length:=by rw[hwl];exact List.length_pos_iff.2 hpos
 have htext: ∀x∈who,∃p∈listL L,(Mk.kn m x).text=pay p.1 p.2∧flawI p.1 p.2=0:=fun x hx=>by
  obtain⟨p,hp,e⟩:=List.mem_map.1 (w3.mem_iff.1 (List.mem_map.2 ⟨x,hx,rfl⟩))
  exact⟨p,hp,e.symm,(hok p hp).2⟩
 have hne: ∀x∈who,(Mk.kn m x).text≠ []:=fun x hx=>by
  obtain⟨p,_,e,_⟩:=htext x hx
  rw[e];unfold pay;simp
 have hrd: ∀x∈who,_:=fun x hx=>data_readG hH R h0 hic2 hI2 (w1 x hx) (hne x hx) (hgw x hx)
 have hf:Wd (fun i=>((Mk.kn m (who.getD i 0)).at_:Int)) who.length:=fun j hj=>by
  have:=(hrd _ (List.getElem_mem hj)).2.2.2
  rw[←getD_lt hj]at this
  dsimp only
  omega
 have hg:Wd (fun i=>Mk.sum m (Mk.kn m (who.getD i 0)).text) who.length:=fun j hj=>by
  have D:=hH.dat _ (w1 _ (List.getElem_mem hj))
  have h2:=wd_bd hH.rep (a:=(m.datas[who[j]]'(w1 _ (List.getElem_mem hj))).at_) (j:=0)
  rw[D.w0]at h2
  dsimp only
  rw[getD_lt hj,kn_at (w1 _ (List.getElem_mem hj))]
  exact h2
 have hX:W64 ((xr ((listL L).map fun q=>pay q.1 q.2):Nat):Int):=by
  have:=xr_lt ((listL L).map fun q=>pay q.1 q.2)
  exact⟨by omega,by omega⟩
 obtain⟨o,ho,hsh⟩:=shp_some hE
 have ok:=hH.rep.ok o (obj_mem _ _ _ _ ho)
 injection hsh with h1 h2 h3 h4
 obtain⟨c1,c2,c3,c4⟩:=R.read ho hga
 have hlt:=R.lt ho hga
 have hob:o.body=body:=by
  unfold O.body
  rw[List.eq_nil_of_length_eq_zero h2,h3]
  rfl
 rw[hob]at c3 c4
 have hbl:body.length=48+16*who.length:=by rw[w4,entB_len]
 obtain⟨n0,n8,n16',n40⟩:=ent_nums sq real mono K _ (prs (fun i=>((Mk.kn m (who.getD i 0)).at_:Int)) (fun i=>Mk.sum m (Mk.kn m (who.getD i 0)).text) who.length) hsq r3 r4 hX
 have hit:=fun j hj=>ent_items sq real mono K ((xr ((listL L).map fun q=>pay q.1 q.2):Nat):Int) (fun i=>((Mk.kn m (who.getD i 0)).at_:Int)) (fun i=>Mk.sum m (Mk.kn m (who.getD i 0)).text) who.length j hj hf hg
 have hKK:=fun j hj=>ent_K sq real mono K ((xr ((listL L).map fun q=>pay q.1 q.2):Nat):Int) (prs (fun i=>((Mk.kn m (who.getD i 0)).at_:Int)) (fun i=>Mk.sum m (Mk.kn m (who.getD i 0)).text) who.length) j hj
 rw[←w4]at n0 n8 n16' n40 hit hKK
 have hN:itN body=who.length:=by unfold itN;omega
 have hris:risB (itA body) who.length=true:=by
  rw[risB_cong (fun j hj=>(hit j hj).1)]
  refine risB_of fun j hj=>?_
  have h5:=List.pairwise_iff_getElem.1 w2 j (j+1) (by omega) (by omega) (by omega)
  try dsimp only
  rw[getD_lt (by omega),getD_lt (by omega)]
  omega
 have hec:ecode l a 3 48 16=0:=by
  unfold ecode
  rw[if_neg (by omega),c2,h1,if_neg (by decide),c4,hbl,if_neg (by omega)]
 have hcode:entC0 l a=0:=by
  unfold entC0
  rw[if_neg (by omega),c4,n0,if_neg hsq0,hN,hris]
  rfl
 obtain⟨t1,t2,t3⟩:=told_yes hcode
 rw[c4]at t2 t3
 have hec9:ecode9 H l l.length a=0:=by
  unfold ecode9
  rw[if_pos ⟨by rw[h0];omega,by omega⟩,hcode]
 have hP: ∀j (hj:j<who.length),payP l (itA body) j=(Mk.kn m who[j]).text:=fun j hj=>by
  show bpay l (itA body j).toNat 1 6=_
  rw[(hit j hj).1]
  try dsimp only
  rw[getD_lt hj,Int.toNat_natCast]
  exact(hrd _ (List.getElem_mem hj)).2.2.1
 have hrows:rowsL (payP l (itA body)) who.length=who.map fun x=>(Mk.kn m x).text:=rowsL_get hP
 have hic0: ∀j,j<who.length→icode H l l.length (itA body) (itH body) j=0:=fun j hj=>by
  obtain⟨p1,p2,p3,p4⟩:=hrd _ (List.getElem_mem hj)
  have e1:itA body j=((Mk.kn m who[j]).at_:Int):=by rw[(hit j hj).1];(try dsimp only);rw[getD_lt hj]
  have e2:itH body j=Mk.sum m (Mk.kn m who[j]).text:=by rw[(hit j hj).2];(try dsimp only);rw[getD_lt hj]
  rw[icode_split e1 p1 (p2.trans e2.symm),p3]
  obtain⟨p,_,e,fl⟩:=htext _ (List.getElem_mem hj)
  rw[e]
  exact(split_pay fl).1
 have hrc:rcode H l l.length a=0:=by
  unfold rcode
  rw[t3,hN,c4]
  refine(rc_of H l l.length _ who.length (itA body) (itH body) _).e hec9 (by omega) hic0 ?_
  rw[t1,c4,n40,hrows,xr_perm w3]
 unfold recP
 rw[if_pos hrc]
 refine⟨hrc,?_,?_,?_,fun j hj=>?_,fun x=>?_⟩
 ·show eNum l a 0=sq;rw[t1,c4,n0]
 ·show eNum l a 8=real;rw[t1,c4,n8]
 ·show eNum l a 16=mono;rw[t1,c4,n16']
 ·show eK l a j=K j;rw[t2];exact hKK j hj
 ·show x∈prsL (payP l (itA (bodyL l a))) (eN l a)↔_
  rw[t3,hN,c4]
  have hpl:prsL (payP l (itA body)) who.length=(who.map fun x=>(Mk.kn m x).text).map fun t=>(splitN t,splitV t):=by
   rw[←hrows]
   unfold prsL rowsL
   rw[List.map_map]
   rfl
  rw[hpl]
  constructor
  ·intro hx
   obtain⟨t,ht,e⟩:=List.mem_map.1 hx
   obtain⟨p,hp,e2⟩:=List.mem_map.1 (w3.mem_iff.1 ht)
   obtain⟨_,s2,s3⟩:=split_pay (hok p hp).2
   rw[←e,←e2]
   try dsimp only
   rw[s2,s3]
   exact hp
  ·intro hx
   obtain⟨_,s2,s3⟩:=split_pay (hok x hx).2
   refine List.mem_map.2 ⟨pay x.1 x.2,w3.mem_iff.2 (List.mem_map.2 ⟨x,hx,rfl⟩),?_⟩
   rw[s2,s3]
variable {h : HD} {l : List Int} {os : List O} {t : Nat} {arr its : List Nat} {G : Nat → Prop}
theorem inA_arrG (w:ArrW os t arr its)(hasc:its.Pairwise (· < ·)){E n:Nat}(hn:n≤its.length)(hp0: ∀x∈its,0<x)(hpos: ∀i (hi:i<its.length),i<n→its[i]<E)(ni:Int)(K:List Int→List Int×Int)(g:Nat→Int)(k:Nat)(hk:k<arr.length)
 (hg: ∀j,j<roomN k→g j=wd os arr[k] (1+j))(hK:rooms (k+1)≤n→K (toI (its.take (rooms (k+1))))=(toI (its.take n),0))(hKf: ∀o:List Int,(o.length:Int)=(n:Int)→K o=(o,0)):
 ∀(q j:Nat),q+j=roomN k→rooms k+j≤n→inA K E (n:Int) ni g q j (toI (its.take (rooms k+j)))=(toI (its.take n),0):=by
 have hrs:=rooms_succ k
 intro q
 induction q with
 |zero=>
  intro j hj h1
  have e:rooms k+j=rooms (k+1):=by omega
  show K _=_
  rw[e]at h1⊢
  exact hK h1
 |succ q ih=>
  intro j hj h1
  by_cases hn1:rooms k+j=n
  ·rw[inA_full _ _ _ _ _ _ _ _ (by rw[toI_len _ _ (by omega),hn1]) (hKf _ (by rw[toI_len _ _ (by omega),hn1])),hn1]
  ·have hl2:rooms k+j<its.length:=by omega
   unfold inA
   rw[if_neg (by rw[toI_len _ _ (by omega)];omega),hg j (by omega),w.it k hk j (by omega)]
   have e1:its.getD (rooms k+j) 0=its[rooms k+j]:=by simp[List.getElem?_eq_getElem hl2]
   have p1:=hp0 its[rooms k+j] (List.getElem_mem _)
   have p2:=hpos (rooms k+j) hl2 (by omega)
   have hlt:=lastI_take hasc hp0 (rooms k+j) hl2
   rw[e1,if_neg (by simp[nothB];omega),if_neg (by omega),toI_step its _ hl2]
   exact ih (j+1) (by omega) (by omega)
theorem chase_arrG (R:Std G l os)(h0:h.N 0=272)(w:ArrW os t arr its)(hasc:its.Pairwise (· < ·)){n:Nat}(hn:n≤its.length)(hp0: ∀x∈its,0<x)(hpos: ∀i (hi:i<its.length),i<n→its[i]<l.length)(hG: ∀k (hk:k<arr.length),rooms k<n→G arr[k])(na ni:Int):
 ∀(f k last:Nat),k≤arr.length→rooms k≤n→(k=0→last=0)→(∀hk:0<k,last=arr.getD (k-1) 0)→last≤l.length→l.length+1≤f+last→
  chase h l l.length (n:Int) na ni f (toI (its.take (rooms k))) (arr.getD k 0) last=(toI (its.take n),0):=by
 intro f
 induction f with
 |zero=>intro k last _ _ _ _ h1 h2;omega
 |succ f ih=>
  intro k last hk hr hl0 hlk hle hf
  by_cases hfull:rooms k=n
  ·rw[chase_full _ _ _ _ _ _ _ _ _ _ (by rw[toI_len _ _ (by omega),hfull]),hfull]
  ·unfold chase
   rw[if_neg (by rw[toI_len _ _ (by omega)];omega)]
   have hke:k≠arr.length:=fun e=>by
    have:=w.le
    rw[e]at hr hfull
    omega
   have hklt:k<arr.length:=by omega
   have e1:arr.getD k 0=arr[k]:=by simp[List.getElem?_eq_getElem hklt]
   have hgk:=hG k hklt (by omega)
   obtain⟨o,ho,hsh⟩:=shp_some (w.sh k hklt)
   have hb:=R.lt ho hgk
   have hrb:=roomN_bd k
   have hlast:last<arr[k]:=by
    rcases Nat.eq_zero_or_pos k with h1|h1
    ·rw[hl0 h1];omega
    ·have h2:=List.pairwise_iff_getElem.1 w.asc (k-1) k (by omega) hklt (by omega)
     have h3:=hlk h1
     have e2:arr.getD (k-1) 0=arr[k-1]:=by simp[List.getElem?_eq_getElem (show k-1<arr.length by omega)]
     omega
   obtain⟨r1,r2,r3,r4⟩:=read_arrG R (w.sh k hklt) (by omega) hgk
   have hrng:h.N 0≤(arr[k]:Int)∧arr[k]<l.length:=by rw[h0];omega
   have ha:arcode h l l.length arr[k]=0:=by unfold arcode;rw[if_pos hrng];exact r1
   have hx:(aX9 h l l.length arr[k]).toNat=arr.getD (k+1) 0:=by
    unfold aX9
    rw[if_pos hrng,r2,w.nx k hklt,Int.toNat_natCast]
   have hc:aC9 h l l.length arr[k]=roomN k:=by unfold aC9;rw[if_pos hrng];exact r3
   rw[e1,if_neg (by simp[nothB];omega),if_neg (by omega),if_neg (by rw[ha];decide),hx,hc]
   refine inA_arrG w hasc hn hp0 hpos ni _ _ k hklt r4 (fun q1=>?_) (fun o ho=>chase_full _ _ _ _ _ _ _ _ _ _ ho) (roomN k) 0 (by omega) (by omega)
   exact ih (k+1) arr[k] (by omega) q1 (fun h=>absurd h (by omega)) (fun _=>by rw[Nat.add_sub_cancel];exact e1.symm) (by omega) (by omega)
end Jl
namespace Jf
open Bytes8 Blk8 Own8 OwnE Rows2 Ga Gb Ma Kf Na Np Nr Ns Nt Nu Rc Rr Va Wa Pr8 Dc Je Zs
def RowAt (w:World)(A:Option Addr)(i:Nat)(r:RecP):Prop:= ∃(b:Nat) (F:Option Addr) (c:Nat),A=some ⟨b,0,none⟩∧b<w.heap.size∧w.rangeAt b (i*20) (recL r.s r.r r.m r.K (.slice F r.n c))∧Prs w F r.pl∧r.Ok
theorem RowAt.below {w w':World}{A:Option Addr}{i:Nat}{r:RecP}(h:RowAt w A i r)(hb:Below w.heap.size w w'):RowAt w' A i r:=by
 obtain⟨b,F,c,e,hl,hr,hp,ok⟩:=h
 exact⟨b,F,c,e,yL hl hb.size,fun j v hj=>(World.cell?_of_block (a:=⟨b,i*20+j,none⟩) (hb.block b hl)).trans (hr j v hj),hp.below hb,ok⟩
theorem own_range {w:World}{B n c:Nat}{A:Option Addr}{xs:List Value}(h:OwnE 74 20 w B A n c xs)(i:Nat)(hi:i<n): ∃b,A=some ⟨b,0,none⟩∧b<w.heap.size∧w.rangeAt b (i*20) ((xs.drop (20*i)).take 20):=by
 have hl:xs.length=n*20:=OwnE.len h
 obtain⟨b,e,_,hlt,_⟩:=OwnE.cell h (i:=20*i) (by omega)
 refine⟨b,e,hlt,fun j v hj=>?_⟩
 have hj2:j<20:=by
  have:=(List.getElem?_eq_some_iff.1 hj).1
  rw[List.length_take]at this;omega
 rw[List.getElem?_take_of_lt hj2,List.getElem?_drop]at hj
 rw[Nat.mul_comm i 20]
 obtain⟨b2,h1,_,_,h2⟩:=OwnE.cell h (i:=20*i+j) (List.getElem?_eq_some_iff.1 hj).1
 rw[e]at h1
 injection h1 with h1
 injection h1 with h1
 subst h1
 exact h2.trans hj
theorem rowAt_recs {w:World}{B n c:Nat}{A:Option Addr}{xs:List Value}{R:List RecP}(h:OwnE 74 20 w B A n c xs)(q:RecsR w A xs R)(i:Nat)(hi:i<R.length):RowAt w A i R[i]:=by
 have hl:xs.length=n*20:=OwnE.len h
 have hl2:=q.len
 obtain⟨b,e,hlt,hr⟩:=own_range h i (by omega)
 obtain⟨F,cf,e1,e2,e3,_⟩:=q.at_ i hi
 rw[e1]at hr
 exact⟨b,F,cf,e,hlt,hr,e2,e3⟩
def rowP (b0:Int)(i:Nat)(r:Zj.RR):RecP:=⟨b0+i+1,r.2.1,r.2.2.1,r.2.2.2,r.1.length,r.1⟩
theorem rowAt_rows {w:World}{B n c:Nat}{A:Option Addr}{xs:List Value}{gq:Nat}{F:Nat→Prop}{b0:Int}{rs:List Zj.RR}(h:OwnE 74 20 w B A n c xs)(q:RowsR w gq F A xs b0 rs)(i:Nat)(hi:i<rs.length)(hK:IdOk rs[i].2.2.2):RowAt w A i (rowP b0 i rs[i]):=by
 have hl:xs.length=n*20:=OwnE.len h
 have hl2:=q.len
 obtain⟨b,e,hlt,hr⟩:=own_range h i (by omega)
 obtain⟨Ar,nr,cr,e1,e2,e3,e4,_⟩:=q.at_ i hi
 rw[e1]at hr
 subst e2
 exact⟨b,Ar,cr,e,hlt,hr,e4,⟨hK,rfl,by show rs[i].1.length≤_;omega⟩⟩
structure SameP (p q:RecP):Prop where
 s:p.s=q.s
 r:p.r=q.r
 m:p.m=q.m
 K: ∀j,j<16→p.K j=q.K j
 pl: ∀y,y∈p.pl↔y∈q.pl
attribute [local irreducible] HD.cells wpList Code.wp
theorem samerows_yes (A B:Option Addr)(n c d:Nat)(Pa Pb:Nat→RecP)(w:World)(hA: ∀i,i<n→RowAt w A i (Pa i))(hB: ∀i,i<n→RowAt w B i (Pb i))(hs: ∀i,i<n→SameP (Pa i) (Pb i))(hn:n≤1000000):
 Calls Tryz.prog 34 #[.slice A n c,.slice B n d] w fun e w'=>e= .returned (.bool true)∧Below w.heap.size w w':=by
 have HA:=yH hA
 have HB:=yH hB
 have HS:=yH hs
 have S0:=yH (Below.refl w.heap.size w)
 have hne:((n:Int)!=(n:Int))=false:=by simp
 clear hA hB hs
 go_enter Tryz.func34,Tryz.ntmps34
 go_wp2_with fail
 go_loopw [5] (fun i wr=> ∃k:Nat,k≤n∧i= .int .i64 (k:Int)∧Hid (Below w.heap.size w wr)) (fun i _=>n-Rn.natOf i)
 case atStart=>exact⟨0,Nat.zero_le _,rfl,S0⟩
 case round=>
  obtain⟨k,hk,rfl,hbr⟩:=hrel
  by_cases hlt:k<n
  ·have dd1:decide ((k:Int)<(n:Int))=true:=by simp;omega
   have hki:(k:Int)<(n:Int):=by omega
   have hw1:IntKind.i64.wrap ((k:Int)+1)=((k+1:Nat):Int):=by rw[IntKind.wrap_i64];omega
   obtain⟨ba,Fa,ca,rfl,hla,hra,hpa,oka⟩:=(HA.out k hlt).below hbr.out
   obtain⟨bb,Fb,cb,rfl,hlb,hrb,hpb,okb⟩:=(HB.out k hlt).below hbr.out
   obtain⟨s1,s2,s3,s4,s5⟩:=HS.out k hlt
   rw[←s1,←s2,←s3,←recL_cong s4]at hrb
   have HKk:=yH oka.K
   have la:=oka.len;have na:=oka.n;have lb:=okb.len;have nb:=okb.n
   have HRa:=yH hra
   have HRb:=yH hrb
   have HPa:=yH hpa
   have HPb:=yH hpb
   clear HA HB HS s1 s2 s3 s4 oka okb hra hrb hpa hpb
   generalize Pa k=p at*
   generalize Pb k=q at*
   obtain⟨sq,real,mono,K,kk,pl⟩:=p
   obtain⟨_,_,_,_,nr,L⟩:=q
   dsimp only at*
   go_upto_region 6 with fail
   have D8:=yH (show Below wr.heap.size wr wr.drew from(Below.refl wr.heap.size wr).drew)
   have HS:=yH fun(W:World) (hW:Below wr.heap.size wr W)=>show W.rangeAt ba (k*20) (recL sq real mono K (.slice Fa kk ca))∧W.rangeAt bb (k*20) (recL sq real mono K (.slice Fb nr cb))from
    ⟨fun j v hj=>(World.cell?_of_block (a:=⟨ba,k*20+j,none⟩) (hW.block ba hla)).trans (HRa.out j v hj),fun j v hj=>(World.cell?_of_block (a:=⟨bb,k*20+j,none⟩) (hW.block bb hlb)).trans (HRb.out j v hj)⟩
   have HSm:=yH fun(W:World) (hW:Below wr.heap.size wr W)=>samerow_yes sq real mono K HKk.out Fa Fb kk nr ca cb pl L W (HPa.out.below hW) (HPb.out.below hW) la lb na nb s5
   refine wp_region_noPanic ?_
   refine wp_region_held_drew (S:=fun W:World=>W.rangeAt ba (k*20) (recL sq real mono K (.slice Fa kk ca))∧W.rangeAt bb (k*20) (recL sq real mono K (.slice Fb nr cb))) (by kernel_rfl) (by exact HS.out _ D8.out) (fun hHeld=>?_)
   refine tk (i:=0) (oi:=⟨some 17,_,_,_,_,_⟩) (v:=?_) rfl (Or.inl ⟨by rfl,?_⟩) ?_
   rotate_left
   ·intro W hSw;go_simp;try (with_reducible rfl)
   try simp only[Act.put,sA,sZ,sS]
   refine tk (i:=1) (oi:=⟨some 18,_,_,_,_,_⟩) (v:=?_) rfl (Or.inl ⟨by rfl,?_⟩) ?_
   rotate_left
   ·intro W hSw;go_simp;try (with_reducible rfl)
   try simp only[Act.put,sA,sZ,sS]
   refine tk (i:=2) (oi:=⟨some 19,_,_,_,_,_⟩) (v:=?_) rfl (Or.inl ⟨by rfl,?_⟩) ?_
   rotate_left
   ·intro W hSw;go_simp;try (with_reducible rfl)
   try simp only[Act.put,sA,sZ,sS]
   refine tk (i:=3) (oi:=⟨some 20,_,_,_,_,_⟩) rfl (yieldsIf_load_mid (by rfl) _ _ rfl _ _ rfl _ _ (fun _ h=>h.1) Tryz.underlying74 rfl (recInfo _ _ _ _ _)) ?_
   try simp only[Act.put,sA,sZ,sS]
   refine tk (i:=4) (oi:=⟨some 21,_,_,_,_,_⟩) (v:=?_) rfl (Or.inl ⟨by rfl,?_⟩) ?_
   rotate_left
   ·intro W hSw;go_simp;try (with_reducible rfl)
   try simp only[Act.put,sA,sZ,sS]
   refine tk (i:=5) (oi:=⟨some 22,_,_,_,_,_⟩) (v:=?_) rfl (Or.inl ⟨by rfl,?_⟩) ?_
   rotate_left
   ·intro W hSw;go_simp;try (with_reducible rfl)
   try simp only[Act.put,sA,sZ,sS]
   refine tk (i:=6) (oi:=⟨some 23,_,_,_,_,_⟩) (v:=?_) rfl (Or.inl ⟨by rfl,?_⟩) ?_
   rotate_left
   ·intro W hSw;go_simp;try (with_reducible rfl)
   try simp only[Act.put,sA,sZ,sS]
   refine tk (i:=7) (oi:=⟨some 24,_,_,_,_,_⟩) rfl (yieldsIf_load_mid (by rfl) _ _ rfl _ _ rfl _ _ (fun _ h=>h.2) Tryz.underlying74 rfl (recInfo _ _ _ _ _)) ?_
   try simp only[Act.put,sA,sZ,sS]
   refine wpAnyH_ready (rs:=[8]) (by kernel_rfl) (by simp) ?_
   refine AllReadyH.cons (o:=⟨some 25,_,_,_,_,_⟩) rfl (fun KK hKK=>?_) AllReadyH.nil
   go_simp
   ((with_reducible refine(HSm.out _ D8.out).mono ?_);rintro e w9 ⟨rfl,hb9⟩;have B9:=yH (D8.out.trans (hb9.mono D8.out.size));clear hb9)
   try go_wp2_with fail
   refine hKK.out _ _ (by exact(HS.out _ B9.out)) (fun hHeld=>?_)
   clear hKK KK
   try simp only[Act.put,sA,sZ,sS]
   refine tk (i:=9) (oi:=⟨some 26,_,_,_,_,_⟩) (v:=?_) rfl (Or.inl ⟨by rfl,?_⟩) ?_
   rotate_left
   ·intro W hSw;go_simp;try (with_reducible rfl)
   try simp only[Act.put,sA,sZ,sS]
   refine wpAnyH_done (by kernel_rfl) ?_ _
   refine NoPanic.normal ?_
   go_wp2_with fail
   go_roundw
   case rel=>exact⟨k+1,hlt,rfl,yH (hbr.out.trans (B9.out.mono hbr.out.size))⟩
   case measure=>simp[Rn.natOf];omega
  ·have dd1:decide ((k:Int)<(n:Int))=false:=by simp;omega
   go_wp2_with fail
   go_ret
   exact⟨rfl,hbr.out⟩
end Jf
namespace Jg
open Bytes8 Blk8 Own8 OwnM OwnE Od Ga Gb Gj Ma Na Np Ns Nt Nu Rc Rn Rr Va Wa Zg Zj Zl Jb Je
open Ri (ecode9)
open Go1 (hcode)
attribute [local irreducible] HD.cells wpList Code.wp
theorem first_jfile (w:World):Calls Tryz.prog 26 #[] w fun e w'=>e= .returned (.bool true)∧Below w.heap.size w w':=by
 have HI:=yH (image_n none 0 0 (fun _=>0) 0 w (fun i hi=>absurd hi (Nat.not_lt_zero i)) (by decide) (by decide))
 unfold ImagedN at HI
 go_enter Tryz.func26,Tryz.ntmps26
 have HOp:=yH fun(m:Mk) (n:Nat) (hg:GoodN m n 0) (A:Option Addr) (c:Nat) (W:World) (B:Nat) (ho:Own8.Own W B A m.b.length c (imgB m))=>show Calls Tryz.prog 30 #[.slice A m.b.length c] W fun e w'=> ∃(gf gv:Nat) (h:HD) (A2:Option Addr) (E c2:Nat) (l:List Int) (P:Option Addr) (cp:Nat),e= .returned (.tuple #[.pointer (some ⟨gf,0,none⟩),.int .i64 0])∧FileAt w' gf gv h A2 E c2 l P 0 cp [] 0∧Below W.heap.size W w' from by
  have hI:=hg.img
  have hlens:=hI.lens
  have hL:=st_len hI 1
  obtain⟨e1,e2⟩:=st_end hI (st:=1) (by decide)
  have e8:=((st_says hI (st:=1) (by decide)).N 8 (by decide)).trans (stH_N m 1 8 (by decide))
  rw[if_neg (by decide),hg.cnt,show(n:Int)=0 by have:=hg.le;omega]at e8
  refine(jopen_fine (stL m 1) A m.b.length c W ho.bytes hL (by omega) (own_cap ho).1 (st_hcode hI (by decide)) m.b.length e1 e2 (yR _) (hdOf_ok ho.bytes.1 21)).mono ?_
  rintro e w' ⟨gf,gv,A2,c2,P,q,cp,rfl,hf,hb⟩
  have hcz:=chase_full (hdOf (stL m 1)) ((stL m 1).take m.b.length) m.b.length 0 14 2 (m.b.length+1) [] ((hdOf (stL m 1)).N 11).toNat 0 rfl
  rw[e8,hcz]at hf
  dsimp only at hf
  have hq:q=0:=hf.len.symm
  subst hq
  exact⟨gf,gv,_,A2,_,c2,_,P,cp,rfl,hf,hb⟩
 go_wp2_with(first
  |(go_at_call 13;((refine HI.out.mono ?_);rintro e w2 ⟨A,c,m,n,rfl,hg2,ho2,hb2⟩;have HG:=yH (HOp.out m n hg2 A c w2 _ ho2);have B2:=yH hb2;clear hg2 ho2 hb2))
  |(go_at_call 30;((refine HG.out.mono ?_);rintro e w3 ⟨gf,gv,h,A2,E,c2,l,P,cp,rfl,hf,hb3⟩;have B3:=yH (B2.out.trans (hb3.mono B2.out.size));have HL:=yH (len_any hf);have HC:=yH (code_any hf);clear hf hb3))
  |(go_at_call 35;((refine HL.out.mono ?_);rintro e w4 ⟨rfl,rfl⟩))
  |(go_at_call 74;((refine HC.out.mono ?_);rintro e w5 ⟨rfl,rfl⟩))
  |fail)
 go_ret
 exact⟨rfl,B3.out⟩
end Jg
namespace Ji
open Ma Zh Rr Pr8 Ps8 Pl8
theorem list_mem {L:List PR}(h:listE L=0)(x:PR):x∈listL L↔x∈L:=by
 unfold listL
 rw[if_pos h,sortP_mem,ded_mem]
theorem toI_nat (l:List Nat)(x:Nat):((toI l).getD x 0).toNat=l.getD x 0:=by
 rw[List.getD_eq_getElem?_getD,List.getD_eq_getElem?_getD,List.getElem?_map]
 cases l[x]? <;>rfl
abbrev dP:RecP:=⟨0,0,0,fun _=>0,0,[]⟩
end Ji
end Go.Proofs.YtiddkgcafpaekaaGreat
