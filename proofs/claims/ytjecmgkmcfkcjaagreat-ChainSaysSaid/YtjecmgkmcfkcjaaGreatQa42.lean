/-
  Texts beneath the proof.
-/
import Derived.Test.YtjecmgkmcfkcjaaGreatQa1
import Derived.Test.YtjecmgkmcfkcjaaGreatQa30
import Derived.Test.YtjecmgkmcfkcjaaGreatQa41
import Derived.Test.YtjecmgkmcfkcjaaGreatQa29
import Derived.Test.YtjecmgkmcfkcjaaGreatQa32
import Derived.Test.YtjecmgkmcfkcjaaGreatQa36
import Derived.Test.YtjecmgkmcfkcjaaGreatQa13
import Derived.Test.YtjecmgkmcfkcjaaGreatQa39
set_option linter.unusedVariables false
set_option linter.unusedSimpArgs false
set_option maxRecDepth 100000
namespace Go.Proofs.YtjecmgkmcfkcjaaGreat
namespace Zh
open Ob Ga Ma Za Zb Zd
theorem u8_body {o:O}(hk:o.Ok)(i a:Nat)(hi:i<o.ws.length)(ha:a=8*i):u8 o.body a=o.ws.getD i 0:=by rw[ha];exact body_w hk i hi
variable {h : HD} {l hd : List Int} {os : List O} {t : Nat} {arr its : List Nat}
end Zh
namespace Zi
open Go1 (hcode magicB)
end Zi
namespace Zk
open Blk8 Ga Ma Mg Na Nh Np Nq Ns Nt Ze Zj Rj
open Rd (dcode dz)
theorem key_is (H:HD)(C:Cf)(hic:H.ic=if C.keyed then 4 else 0)(hI: ∀i,i<16→H.I i=C.F i):keyB H.ic=C.keyed∧idL H.I=Cf.file C:=by
 refine⟨?_,?_⟩
 ·rw[hic]
  cases C.keyed
  ·rfl
  ·rfl
 ·unfold idL Cf.file idL
  rw[hI 0 (by decide),hI 1 (by decide),hI 2 (by decide),hI 3 (by decide),hI 4 (by decide),hI 5 (by decide),hI 6 (by decide),hI 7 (by decide),hI 8 (by decide),hI 9 (by decide),hI 10 (by decide),hI 11 (by decide),hI 12 (by decide),hI 13 (by decide),hI 14 (by decide),hI 15 (by decide)]
end Zk
namespace Zl
open Bytes8 Ga Gb Gf Gj Gm Ma Mb Mh Na Nc Nt Za Zb Zj
open Go1 (hcode magicB)
def stH (m:Mk)(st:Int):HD:=HD.plus (Mk.head m st) (m.depth:Int)
def stL (m:Mk)(st:Int):List Int:=(stH m st).bytes 21++m.b.drop 272
theorem stH_N (m:Mk)(st:Int)(i:Nat)(hi:i<20):(stH m st).N i=if i=1 then(m.b.length:Int)-272 else m.h.N i:=imgH_N m i hi
theorem st_ok {m:Mk}(h:Img m){st:Int}(hs:0≤st∧st≤2):(stH m st).Ok 21:=by
 have k:=imgH_ok h
 exact {cp:=k.cp,ic:=k.ic,st:=by show -9223372036854775808≤st∧st≤9223372036854775807;omega,I:=k.I,ta:=k.ta,ti:=k.ti,te:=k.te,N:=k.N}
theorem st_len {m:Mk}(h:Img m)(st:Int):(stL m st).length=m.b.length:=by
 have:=h.lens
 unfold stL
 rw[List.length_append,HD.bytes_len,List.length_drop]
 omega
theorem st_says {m:Mk}(h:Img m){st:Int}(hs:0≤st∧st≤2):Says (hdOf (stL m st)) (stH m st):=
 hd_back (stH m st) (st_ok h hs) (by show 0≤st∧st<256;omega) (m.b.drop 272)
theorem st_fcode {m:Mk}(h:Img m){st:Int}(hs:0≤st∧st≤2)(N:Int):fcode (stH m st) N=fcode (imgH m) N:=by
 have e: ∀i,(stH m st).N i=(imgH m).N i:=fun i=>rfl
 have e2:stB (stH m st).st=stB (imgH m).st:=by
  show stB st=stB 1
  have:st=0∨st=1∨st=2:=by omega
  rcases this with h|h|h<;>subst h<;>rfl
 unfold fcode endV endB
 rw[e2]
 rfl
theorem st_hcode {m:Mk}(h:Img m){st:Int}(hs:0≤st∧st≤2):hcode (stL m st) m.b.length=0:=by
 have hl:=h.lens
 unfold hcode
 rw[if_neg (by omega),show magicB (stL m st)=true from magic_back _ _ _,if_neg (by simp),(st_says h hs).fcode,st_fcode h hs,img_fcode h _ (by omega)]
theorem st_end {m:Mk}(h:Img m){st:Int}(hs:0≤st∧st≤2):endV (hdOf (stL m st))=(m.b.length:Int)∧endB (hdOf (stL m st))=true:=by
 have s:=st_says h hs
 have e0:=(s.N 0 (by decide)).trans (stH_N m st 0 (by decide))
 have e1:=(s.N 1 (by decide)).trans (stH_N m st 1 (by decide))
 obtain⟨l1,l2,l3⟩:=h.lens
 rw[if_neg (by decide),h.hg.n0]at e0
 rw[if_pos rfl]at e1
 unfold endV endB
 rw[e0,e1]
 constructor
 ·split<;>omega
 ·simp;omega
end Zl
namespace Zx
open Bytes8 Ob Ga Gb Gj Ma Mb Mg Na Nc Nt Np Nq Ns Za Zb Zc Zd Ze Zg Yp Yh Va Vf Zh Zl
open Rd (dcode)
open Rf (fcode)
theorem read_num {l hd:List Int}{os:List O}(hl:l=hd++enc os)(hh:hd.length=272)(hok: ∀o∈os,o.Ok){a nw:Nat}{k:Int}{tl:List Int}{g:Nat×Nat}(hs:shp os a=some ⟨k,nw,tl,g⟩)(htl:tl≠ []):
 bcode l a k nw=0∧(∀i,i<nw→bnum l a k nw i=wd os a i)∧bpay l a k nw=tl∧272≤a∧a<l.length:=by
 obtain⟨o,ho,hsh⟩:=shp_some hs
 have ok:=hok o (obj_mem _ _ _ _ ho)
 injection hsh with h1 h2 h3 h4
 obtain⟨c1,c2,c3,c4⟩:=read_at hl hh ho ok
 have hpos:=List.length_pos_iff.2 htl
 have hbl:o.body.length=8*nw+tl.length:=by rw[O.body_len,h2,h3]
 have hbc:bcode l a k nw=0:=by
  unfold bcode
  rw[if_neg (by omega),c2,h1,if_neg (by simp),c4,if_neg (by omega)]
 have hsz:l.length=endO os:=by rw[hl,List.length_append,hh];rfl
 have hlt:=shp_lt hs
 dsimp only at hlt
 refine⟨hbc,fun i hi=>?_,?_,hlt.1,by omega⟩
 ·unfold bnum
  rw[if_pos hbc,c4,u8_body ok i _ (by omega) rfl]
  unfold wd
  rw[ho]
 ·unfold bpay
  rw[if_pos hbc,c4]
  unfold O.body
  rw[List.drop_left' (by rw[nums_len,h2]),h3]
theorem read_tab {l hd:List Int}{os:List O}(hl:l=hd++enc os)(hh:hd.length=272)(hok: ∀o∈os,o.Ok){a n:Nat}{k:Int}{g:Nat×Nat}(hk:k=4∨k=5)(hn:0<n)(hs:shp os a=some ⟨k,2*n,[],g⟩):
 tabC l a k=0∧taNum l a k=n∧ ∀s,s<n→taA (bodyL l a) s=wd os a (2*s):=by
 obtain⟨o,ho,hsh⟩:=shp_some hs
 have ok:=hok o (obj_mem _ _ _ _ ho)
 injection hsh with h1 h2 h3 h4
 obtain⟨c1,c2,c3,c4⟩:=read_at hl hh ho ok
 have hbl:o.body.length=16*n:=by rw[O.body_len,h2,h3];simp;omega
 have hit:isTab k=true:=by rcases hk with rfl|rfl<;>rfl
 have htc:tabC l a k=0:=by
  unfold tabC ecode
  rw[if_pos hit,if_neg (by omega),c2,h1,if_neg (by simp),c4,hbl,if_neg (by omega)]
 refine⟨htc,?_,fun s hsn=>?_⟩
 ·unfold taNum taN
  rw[if_pos htc,c4,hbl]
  omega
 ·unfold taA
  rw[c4,u8_body ok (2*s) _ (by omega) (by omega)]
  unfold wd
  rw[ho]
variable {m : Mk} {n0 : Nat} {os : List O} {hs : Nat → List Nat} {mi : List Nat} {es : List (Nat × List Int)}
theorem st_N {st:Int}(h:Img m)(ht:0≤st∧st≤2)(i:Nat)(hi:i<20)(h1:i≠1):(hdOf (stL m st)).N i=m.h.N i:=by
 have e0:=((st_says h ht).N i (by omega)).trans (stH_N m st i hi)
 rw[if_neg h1]at e0
 exact e0
theorem slot_lt (k:Kept m n0 os hs mi es)(t:List Int):Mk.dslot m t<m.C.ds∧Mk.fslot m t<m.C.fs:=by
 have hI:=k.good.img.inv
 unfold Mk.dslot Mk.fslot
 have h1:=hI.ds
 have h2:=hI.fs
 have h3:=Int.emod_lt_of_pos (Mk.sum m t) (show(0:Int)<(m.C.ds:Int)by omega)
 have h4:=Int.emod_nonneg (Mk.sum m t) (show(m.C.ds:Int)≠0 by omega)
 have h5:=Int.emod_lt_of_pos (Mk.sum m t) (show(0:Int)<(m.C.fs:Int)by omega)
 have h6:=Int.emod_nonneg (Mk.sum m t) (show(m.C.fs:Int)≠0 by omega)
 omega
theorem st_tab (k:Kept m n0 os hs mi es){st:Int}(ht:0≤st∧st≤2):
 (tCode (hdOf (stL m st)) (stL m st) 4=0∧tNum (hdOf (stL m st)) (stL m st) 4=m.C.ds∧ ∀s,s<m.C.ds→taA (bodyL (stL m st) (tOff (hdOf (stL m st)) 4)) s=wd os 272 (2*s))∧
 (tCode (hdOf (stL m st)) (stL m st) 5=0∧tNum (hdOf (stL m st)) (stL m st) 5=m.C.fs∧ ∀s,s<m.C.fs→taA (bodyL (stL m st) (tOff (hdOf (stL m st)) 5)) s=wd os (288+16*m.C.ds) (2*s)):=by
 have hI:=k.good.img
 have hl:stL m st=(stH m st).bytes 21++enc os:=by unfold stL;rw[k.hold.rep.rep.eq]
 have hh:((stH m st).bytes 21).length=272:=by rw[HD.bytes_len]
 have e2:=(st_N hI ht 2 (by decide) (by decide)).trans hI.inv.n2
 have e3:=(st_N hI ht 3 (by decide) (by decide)).trans hI.hg.n3
 have e4:=(st_N hI ht 4 (by decide) (by decide)).trans hI.inv.n4
 have e5:=(st_N hI ht 5 (by decide) (by decide)).trans hI.hg.n5
 unfold Mk.tf at e4
 have hds:=hI.inv.ds
 have hfs:=hI.inv.fs
 obtain⟨g4,h4⟩:=k.hold.td.sh
 obtain⟨g5,h5⟩:=k.hold.tf.sh
 obtain⟨a1,a2,a3⟩:=read_tab hl hh k.hold.rep.ok (.inl rfl) hds.1 h4
 obtain⟨b1,b2,b3⟩:=read_tab hl hh k.hold.rep.ok (.inr rfl) hfs.1 h5
 have o4:tOff (hdOf (stL m st)) 4=272:=by
  unfold tOff tAt
  rw[if_pos rfl,e2]
  rfl
 have o5:tOff (hdOf (stL m st)) 5=288+16*m.C.ds:=by
  unfold tOff tAt
  rw[if_neg (by decide),e4]
  omega
 have z4:tSz (hdOf (stL m st)) 4=16*m.C.ds:=by
  unfold tSz
  rw[if_pos rfl,e3]
  omega
 have z5:tSz (hdOf (stL m st)) 5=16*m.C.fs:=by
  unfold tSz
  rw[if_neg (by decide),e5]
  omega
 have c4:tCode (hdOf (stL m st)) (stL m st) 4=0:=by
  unfold tCode tCd
  rw[if_pos (.inl rfl),o4,z4,a1,a2,if_neg (by simp),if_pos (by omega)]
 have c5:tCode (hdOf (stL m st)) (stL m st) 5=0:=by
  unfold tCode tCd
  rw[if_pos (.inr rfl),o5,z5,b1,b2,if_neg (by simp),if_pos (by omega)]
 refine⟨⟨c4,?_,?_⟩,c5,?_,?_⟩
 ·unfold tNum
  rw[if_pos c4,o4,a2]
 ·rw[o4];exact a3
 ·unfold tNum
  rw[if_pos c5,o5,b2]
 ·rw[o5];exact b3
theorem st_dat (k:Kept m n0 os hs mi es)(htx: ∀d∈m.datas,d.text≠ []){st:Int}(ht:0≤st∧st≤2)(i:Nat)(hi:i<m.datas.length):
 dcode (hdOf (stL m st)) (stL m st) m.b.length m.datas[i].at_=0∧(∀j,j<6→dN (hdOf (stL m st)) (stL m st) m.b.length m.datas[i].at_ j=wd os m.datas[i].at_ j)∧dP (hdOf (stL m st)) (stL m st) m.b.length m.datas[i].at_=m.datas[i].text∧m.datas[i].at_<m.b.length∧272≤m.datas[i].at_:=by
 have hI:=k.good.img
 have hl:stL m st=(stH m st).bytes 21++enc os:=by unfold stL;rw[k.hold.rep.rep.eq]
 have hh:((stH m st).bytes 21).length=272:=by rw[HD.bytes_len]
 have e0:=(st_N hI ht 0 (by decide) (by decide)).trans hI.hg.n0
 have D:=k.hold.dat i hi
 obtain⟨r1,r2,r3,r4,r5⟩:=read_num hl hh k.hold.rep.ok D.sh (htx _ (List.getElem_mem hi))
 rw[st_len hI st]at r5
 have hr:rng (hdOf (stL m st)) m.b.length m.datas[i].at_:=by rw[rng,e0];omega
 refine⟨?_,fun j hj=>?_,?_,r5,r4⟩
 ·unfold dcode;rw[if_pos hr];exact r1
 ·unfold dN;rw[if_pos hr];exact r2 j hj
 ·unfold dP;rw[if_pos hr];exact r3
end Zx
namespace Zz
open Bytes8 Blk8 Ga Gj Ma Mb Mg Na Nc Nt Np Nq Ns Sg Za Zb Zc Zd Ze Zg Va Wa Wg Zj Zk Zl Zx Rj
open Rd (dcode)
open Rf (fcode)
theorem seek_fol (E:Nat)(oC:Nat→Int)(oX:Nat→Nat)(oH:Nat→Int)(oP:Nat→List Int)(hv:Int)(pl:List Int)(nx:Nat→Int): ∀(xs:List Nat) (a last f:Nat),Fol nx (a:Int) xs→(last::xs).Pairwise (· < ·)→(∀x∈xs,oC x=0∧(oX x:Int)=nx x∧x<E)→last≤E→E+1≤f+last→
 (∃x∈xs,oH x=hv∧oP x=pl∧seek E oC oX oH oP hv pl f a last=((x:Int),0))∨((∀x∈xs,¬(oH x=hv∧oP x=pl))∧seek E oC oX oH oP hv pl f a last=(0,16))
 | [],a,last,f,h,_,_,hl,hf=>by
   have h0:(a:Int)=0:=h
   obtain⟨f,rfl⟩: ∃q,f=q+1:=⟨f-1,by omega⟩
   refine .inr ⟨(fun x hx=>by cases hx),?_⟩
   unfold seek
   rw[if_pos (by rw[h0];simp[nothB])]
 |x::xs,a,last,f,h,hp,hx,hl,hf=>by
  obtain⟨f,rfl⟩: ∃q,f=q+1:=⟨f-1,by omega⟩
  have h0:(a:Int)=(x:Int):=h.1
  have hax:a=x:=by omega
  subst hax
  obtain⟨x1,x2,x3⟩:=hx a (List.mem_cons_self ..)
  rw[List.pairwise_cons]at hp
  have hlt:=hp.1 a (List.mem_cons_self ..)
  unfold seek
  rw[if_neg (by simp[nothB];omega),if_neg (by omega),if_neg (by rw[x1];simp)]
  by_cases hm:oH a=hv∧oP a=pl
  ·rw[if_pos hm]
   exact .inl ⟨a,List.mem_cons_self ..,hm.1,hm.2,rfl⟩
  ·rw[if_neg hm]
   have h2:=h.2
   rw[←x2]at h2
   rcases seek_fol E oC oX oH oP hv pl nx xs (oX a) a f h2 hp.2 (fun y hy=>hx y (List.mem_cons_of_mem _ hy)) (by omega) (by omega)with⟨y,y1,y2,y3,y4⟩|⟨y1,y2⟩
   ·exact .inl ⟨y,List.mem_cons_of_mem _ y1,y2,y3,y4⟩
   ·refine .inr ⟨fun y hy=>?_,y2⟩
    rcases List.mem_cons.1 hy with e|e
    ·rw[e];exact hm
    ·exact y1 y e
variable {m : Mk} {n0 : Nat} {os : List O} {hs : Nat → List Nat} {mi : List Nat} {es : List (Nat × List Int)}
structure Jn (m:Mk)(n0:Nat)(os:List O)(hs:Nat→List Nat)(mi:List Nat)(es:List (Nat×List Int)):Prop where
 k:Kept m n0 os hs mi es
 dt: ∀d∈m.datas,d.text≠ []
 ft: ∀f∈m.fields,f.text≠ []
 ic:m.h.ic=if m.C.keyed then 4 else 0
 I: ∀i,i<16→m.h.I i=m.C.F i
theorem mem_at {l:List Kn}{s x:Nat}(h:x∈pl l s): ∃i,∃hi:i<l.length,l[i].slot=s∧l[i].at_=x:=by
 obtain⟨d,hd,h1,h2⟩:=mem_pl h
 obtain⟨i,hi,e⟩:=List.getElem_of_mem hd
 exact⟨i,hi,by rw[e];exact h1,by rw[e];exact h2⟩
theorem at_mem {l:List Kn}{i:Nat}(hi:i<l.length):l[i].at_∈pl l l[i].slot:=by
 unfold pl
 exact List.mem_map.2 ⟨l[i],List.mem_filter.2 ⟨List.getElem_mem hi,by simp⟩,rfl⟩
theorem st_key (j:Jn m n0 os hs mi es){st:Int}(ht:0≤st∧st≤2)(t:List Int):ofS (keyB (hdOf (stL m st)).ic) (idL (hdOf (stL m st)).I) t=Mk.sum m t:=by
 have s:=st_says j.k.good.img ht
 obtain⟨k1,k2⟩:=key_is (hdOf (stL m st)) m.C (s.ic.trans j.ic) (fun i hi=>(s.I i (by omega)).trans (j.I i hi))
 rw[k1,k2]
 rfl
theorem chainD (j:Jn m n0 os hs mi es){st:Int}(ht:0≤st∧st≤2)(s:Nat): ∀x∈pl m.datas s,dcode (hdOf (stL m st)) (stL m st) m.b.length x=0∧(((fun a=>(dN (hdOf (stL m st)) (stL m st) m.b.length a 1).toNat) x:Nat):Int)=wd os x 1∧x<m.b.length:=fun x hx=>by
 obtain⟨i,hi,_,rfl⟩:=mem_at hx
 obtain⟨d1,d2,_,d4,_⟩:=st_dat j.k j.dt ht i hi
 have hb:=wd_bd j.k.hold.rep (a:=m.datas[i].at_) (j:=1)
 refine⟨d1,?_,d4⟩
 dsimp only
 rw[d2 1 (by decide)]
 omega
theorem pos_pl {l:List Kn}(h:Asc l)(hp: ∀d∈l,0<d.at_)(s:Nat):(0::pl l s).Pairwise (· < ·):=by
 rw[List.pairwise_cons]
 refine⟨fun x hx=>?_,h.pl s⟩
 obtain⟨d,hd,_,e⟩:=mem_pl hx
 rw[←e];exact hp d hd
theorem posD (j:Jn m n0 os hs mi es): ∀d∈m.datas,0<d.at_:=fun d hd=>by
 obtain⟨i,hi,rfl⟩:=List.getElem_of_mem hd
 have:=(st_dat j.k j.dt (st:=0) (by decide) i hi).2.2.2.2
 omega
theorem nat_of {z:Int}(h:0≤z):((z.toNat:Nat):Int)=z:=by omega
theorem slot_mod (x:Int)(n:Nat)(h:0≤x):x.toNat%n=(x%(n:Int)).toNat:=by
 obtain⟨q,rfl⟩: ∃q:Nat,x=(q:Int):=⟨x.toNat,by omega⟩
 rw[Int.toNat_natCast]
 have:((q:Int)%(n:Int))=((q%n:Nat):Int):=by omega
 rw[this,Int.toNat_natCast]
theorem st_find4 (j:Jn m n0 os hs mi es){st:Int}(ht:0≤st∧st≤2)(t:List Int):
 (∃i,∃hi:i<m.datas.length,m.datas[i].text=t∧find4 (hdOf (stL m st)) (stL m st) m.b.length t=((m.datas[i].at_:Int),0))∨((∀d∈m.datas,d.text≠t)∧find4 (hdOf (stL m st)) (stL m st) m.b.length t=(0,16)):=by
 obtain⟨⟨t1,t2,t3⟩,_⟩:=st_tab j.k ht
 have hsl:=(slot_lt j.k t).1
 have hsum:=(ofS_bd m.C.keyed (Cf.file m.C) t).1
 have hss:(Mk.sum m t).toNat%m.C.ds=Mk.dslot m t:=slot_mod _ _ hsum
 unfold find4
 rw[if_neg (by rw[t1];simp),t2,st_key j ht,hss,t3 _ hsl]
 have hb:=wd_bd j.k.hold.rep (a:=272) (j:=2*Mk.dslot m t)
 have hf:=j.k.hold.td.fol _ hsl
 rw[←nat_of hb.1]at hf
 rcases seek_fol m.b.length (dcode (hdOf (stL m st)) (stL m st) m.b.length) (fun a=>(dN (hdOf (stL m st)) (stL m st) m.b.length a 1).toNat) (fun a=>dN (hdOf (stL m st)) (stL m st) m.b.length a 0) (dP (hdOf (stL m st)) (stL m st) m.b.length) (Mk.sum m t) t (fun x=>wd os x 1) _ _ 0 (m.b.length+1) hf (pos_pl j.k.hold.asc (posD j) _) (chainD j ht _) (Nat.zero_le _) (by omega)with⟨x,x1,_,x3,x4⟩|⟨x1,x2⟩
 ·obtain⟨i,hi,_,rfl⟩:=mem_at x1
  refine .inl ⟨i,hi,?_,x4⟩
  rw[(st_dat j.k j.dt ht i hi).2.2.1]at x3
  exact x3
 ·refine .inr ⟨fun d hd e=>?_,x2⟩
  obtain⟨i,hi,rfl⟩:=List.getElem_of_mem hd
  have hD:=j.k.hold.dat i hi
  have hm:=at_mem hi
  rw[hD.slot,e]at hm
  obtain⟨_,d2,d3,_⟩:=st_dat j.k j.dt ht i hi
  refine x1 _ hm ⟨?_,d3.trans e⟩
  rw[d2 0 (by decide),hD.w0,e]
end Zz
end Go.Proofs.YtjecmgkmcfkcjaaGreat
