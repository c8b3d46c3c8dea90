/-
  Texts beneath the proof.
-/
import Derived.Test.YtjecmgkmcfkcjaaGreatQh29
import Derived.Test.YtjecmgkmcfkcjaaGreatQh40
set_option linter.unusedVariables false
set_option linter.unusedSimpArgs false
set_option maxRecDepth 100000
namespace Go.Proofs.YtjecmgkmcfkcjaaGreat
namespace Zh
open Ob Ga Ma Za Zb Zd
theorem u8_body {o:O}(hk:o.Ok)(i a:Nat)(hi:i<o.ws.length)(ha:a=8*i):u8 o.body a=o.ws.getD i 0:=by rw[ha];exact body_w hk i hi
abbrev toI (l:List Nat):List Int:=l.map fun(x:Nat)=>(x:Int)
variable {h : HD} {l hd : List Int} {os : List O} {t : Nat} {arr its : List Nat}
end Zh
namespace Zi
open Go1 (hcode magicB)
end Zi
namespace Zk
open Blk8 Ga Ma Mg Na Nh Np Nq Ns Nt Ze Zj Rj
open Rd (dcode dz)
theorem key_is (H:HD)(C:Cf)(hic:H.ic=if C.keyed then 4 else 0)(hI: ∀i,i<16→H.I i=C.F i):keyB H.ic=C.keyed∧idL H.I=Cf.file C:=by
 refine⟨?_,?_⟩
 ·rw[hic]
  cases C.keyed
  ·rfl
  ·rfl
 ·unfold idL Cf.file idL
  rw[hI 0 (by decide),hI 1 (by decide),hI 2 (by decide),hI 3 (by decide),hI 4 (by decide),hI 5 (by decide),hI 6 (by decide),hI 7 (by decide),hI 8 (by decide),hI 9 (by decide),hI 10 (by decide),hI 11 (by decide),hI 12 (by decide),hI 13 (by decide),hI 14 (by decide),hI 15 (by decide)]
end Zk
namespace Zl
open Bytes8 Ga Gb Gf Gj Gm Ma Mb Mh Na Nc Nt Za Zb Zj
open Go1 (hcode magicB)
def stH (m:Mk)(st:Int):HD:=HD.plus (Mk.head m st) (m.depth:Int)
def stL (m:Mk)(st:Int):List Int:=(stH m st).bytes 21++m.b.drop 272
theorem stH_N (m:Mk)(st:Int)(i:Nat)(hi:i<20):(stH m st).N i=if i=1 then(m.b.length:Int)-272 else m.h.N i:=imgH_N m i hi
theorem st_ok {m:Mk}(h:Img m){st:Int}(hs:0≤st∧st≤2):(stH m st).Ok 21:=by
 have k:=imgH_ok h
 exact {cp:=k.cp,ic:=k.ic,st:=by show -9223372036854775808≤st∧st≤9223372036854775807;omega,I:=k.I,ta:=k.ta,ti:=k.ti,te:=k.te,N:=k.N}
theorem st_head {m:Mk}(h:Img m){st:Int}(hs:0≤st∧st≤2):(Mk.head m st).Ok 20:=by
 have k:=head_ok h
 exact {cp:=k.cp,ic:=k.ic,st:=by show -9223372036854775808≤st∧st≤9223372036854775807;omega,I:=k.I,ta:=k.ta,ti:=k.ti,te:=k.te,N:=k.N}
theorem st_len {m:Mk}(h:Img m)(st:Int):(stL m st).length=m.b.length:=by
 have:=h.lens
 unfold stL
 rw[List.length_append,HD.bytes_len,List.length_drop]
 omega
theorem st_says {m:Mk}(h:Img m){st:Int}(hs:0≤st∧st≤2):Says (hdOf (stL m st)) (stH m st):=
 hd_back (stH m st) (st_ok h hs) (by show 0≤st∧st<256;omega) (m.b.drop 272)
theorem st_fcode {m:Mk}(h:Img m){st:Int}(hs:0≤st∧st≤2)(N:Int):fcode (stH m st) N=fcode (imgH m) N:=by
 have e: ∀i,(stH m st).N i=(imgH m).N i:=fun i=>rfl
 have e2:stB (stH m st).st=stB (imgH m).st:=by
  show stB st=stB 1
  have:st=0∨st=1∨st=2:=by omega
  rcases this with h|h|h<;>subst h<;>rfl
 unfold fcode endV endB
 rw[e2]
 rfl
theorem st_hcode {m:Mk}(h:Img m){st:Int}(hs:0≤st∧st≤2):hcode (stL m st) m.b.length=0:=by
 have hl:=h.lens
 unfold hcode
 rw[if_neg (by omega),show magicB (stL m st)=true from magic_back _ _ _,if_neg (by simp),(st_says h hs).fcode,st_fcode h hs,img_fcode h _ (by omega)]
theorem st_end {m:Mk}(h:Img m){st:Int}(hs:0≤st∧st≤2):endV (hdOf (stL m st))=(m.b.length:Int)∧endB (hdOf (stL m st))=true:=by
 have s:=st_says h hs
 have e0:=(s.N 0 (by decide)).trans (stH_N m st 0 (by decide))
 have e1:=(s.N 1 (by decide)).trans (stH_N m st 1 (by decide))
 obtain⟨l1,l2,l3⟩:=h.lens
 rw[if_neg (by decide),h.hg.n0]at e0
 rw[if_pos rfl]at e1
 unfold endV endB
 rw[e0,e1]
 constructor
 ·split<;>omega
 ·simp;omega
end Zl
namespace Zx
open Bytes8 Ob Ga Gb Gj Ma Mb Mg Na Nc Nt Np Ns Za Zb Zc Zd Ze Zg Va Zh Zl
open Rd (dcode)
theorem read_num {l hd:List Int}{os:List O}(hl:l=hd++enc os)(hh:hd.length=272)(hok: ∀o∈os,o.Ok){a nw:Nat}{k:Int}{tl:List Int}{g:Nat×Nat}(hs:shp os a=some ⟨k,nw,tl,g⟩)(htl:tl≠ []):
 bcode l a k nw=0∧(∀i,i<nw→bnum l a k nw i=wd os a i)∧bpay l a k nw=tl∧272≤a∧a<l.length:=by
 obtain⟨o,ho,hsh⟩:=shp_some hs
 have ok:=hok o (obj_mem _ _ _ _ ho)
 injection hsh with h1 h2 h3 h4
 obtain⟨c1,c2,c3,c4⟩:=read_at hl hh ho ok
 have hpos:=List.length_pos_iff.2 htl
 have hbl:o.body.length=8*nw+tl.length:=by rw[O.body_len,h2,h3]
 have hbc:bcode l a k nw=0:=by
  unfold bcode
  rw[if_neg (by omega),c2,h1,if_neg (by simp),c4,if_neg (by omega)]
 have hsz:l.length=endO os:=by rw[hl,List.length_append,hh];rfl
 have hlt:=shp_lt hs
 dsimp only at hlt
 refine⟨hbc,fun i hi=>?_,?_,hlt.1,by omega⟩
 ·unfold bnum
  rw[if_pos hbc,c4,u8_body ok i _ (by omega) rfl]
  unfold wd
  rw[ho]
 ·unfold bpay
  rw[if_pos hbc,c4]
  unfold O.body
  rw[List.drop_left' (by rw[nums_len,h2]),h3]
variable {m : Mk} {n0 : Nat} {os : List O} {hs : Nat → List Nat} {mi : List Nat} {es : List (Nat × List Int)}
theorem st_N {st:Int}(h:Img m)(ht:0≤st∧st≤2)(i:Nat)(hi:i<20)(h1:i≠1):(hdOf (stL m st)).N i=m.h.N i:=by
 have e0:=((st_says h ht).N i (by omega)).trans (stH_N m st i hi)
 rw[if_neg h1]at e0
 exact e0
theorem st_dat (k:Kept m n0 os hs mi es)(htx: ∀d∈m.datas,d.text≠ []){st:Int}(ht:0≤st∧st≤2)(i:Nat)(hi:i<m.datas.length):
 dcode (hdOf (stL m st)) (stL m st) m.b.length m.datas[i].at_=0∧(∀j,j<6→dN (hdOf (stL m st)) (stL m st) m.b.length m.datas[i].at_ j=wd os m.datas[i].at_ j)∧dP (hdOf (stL m st)) (stL m st) m.b.length m.datas[i].at_=m.datas[i].text∧m.datas[i].at_<m.b.length∧272≤m.datas[i].at_:=by
 have hI:=k.good.img
 have hl:stL m st=(stH m st).bytes 21++enc os:=by unfold stL;rw[k.hold.rep.rep.eq]
 have hh:((stH m st).bytes 21).length=272:=by rw[HD.bytes_len]
 have e0:=(st_N hI ht 0 (by decide) (by decide)).trans hI.hg.n0
 have D:=k.hold.dat i hi
 obtain⟨r1,r2,r3,r4,r5⟩:=read_num hl hh k.hold.rep.ok D.sh (htx _ (List.getElem_mem hi))
 rw[st_len hI st]at r5
 have hr:rng (hdOf (stL m st)) m.b.length m.datas[i].at_:=by rw[rng,e0];omega
 refine⟨?_,fun j hj=>?_,?_,r5,r4⟩
 ·unfold dcode;rw[if_pos hr];exact r1
 ·unfold dN;rw[if_pos hr];exact r2 j hj
 ·unfold dP;rw[if_pos hr];exact r3
end Zx
end Go.Proofs.YtjecmgkmcfkcjaaGreat
