/-
  Texts beneath the proof.
-/
import Derived.Test.YtiddkgcafpaekaaGreatJq40
set_option linter.unusedVariables false
set_option linter.unusedSimpArgs false
set_option maxRecDepth 100000
open Go.ChangeShapes Go.WideShapes Go.ChangeAt Go.RowKit
namespace Go.Proofs.YtiddkgcafpaekaaGreat
namespace Jm
open Ma Mg Na Nc Nh Nl Np Za Zb Zj Rr Jf
open Go1 (hcode magicB)
variable {m m' : Mk} {rs more : List RR} {os os' : List O} {hs hs' : Nat → List Nat} {mi mi' : List Nat} {es es' : List (Nat × List Int)}
end Jm
namespace Jo
open Bytes8 Blk8 Ob Ga Gb Gf Gj Ma Mb Mg Na Nc Nh Nl Np Ns Nt Nu Sg Fa Yd Yc Yp Yg Yj Za Zb Zc Zd Ze Zg Zh Zj Zk Zl Pr8 Pl8 Va Wa Rk Rm Rn Rr Ja Jd Je Jf Ji Jl
open Rd (dcode dz)
open Ri (ecode9)
open Rj (keyB)
theorem obj_apart: ∀(os:List O) (s a b:Nat) (o o':O),obj s os a=some o→obj s os b=some o'→a<b→a+o.n≤b
 | [],s,a,b,o,o',h,_,_=>by cases h
 |x::os,s,a,b,o,o',h,h',hlt=>by
  have hs:=(obj_bd _ _ _ _ h).1
  unfold obj at h h'
  rw[if_neg (by omega)]at h'
  by_cases e:a=s
  ·rw[if_pos e]at h
   injection h with h
   subst h
   have:=(obj_bd _ _ _ _ h').1
   omega
  ·rw[if_neg e]at h
   exact obj_apart os _ a b o o' h h' hlt
theorem std_set {l hd:List Int}{os:List O}(hl:l=hd++enc os)(hh:hd.length=272)(hok: ∀o∈os,o.Ok){k:Nat}{o:O}(ho:obj 272 os k=some o){i:Nat}(hi:k≤i∧i<k+o.n)(v:Int):Std (fun a=>a≠k) (l.set i v) os where
 ok:=hok
 at_:=fun a o' ho' hne=>by
  obtain⟨p,q,e,hp⟩:=obj_split _ _ _ _ ho'
  have h2:o'.enc.length=o'.n:=rfl
  have hpl:(hd++p).length=a:=by rw[List.length_append,hh,hp]
  have e2:l=(hd++p)++(o'.enc++q):=by rw[hl,e,List.append_assoc]
  rcases Nat.lt_or_ge a k with h3|h3
  ·have h4:=obj_apart _ _ _ _ _ _ ho' ho h3
   refine⟨hd++p,q.set (i-a-o'.n) v,?_,hpl⟩
   rw[e2,List.set_append_right _ _ (by omega),List.set_append_right _ _ (by omega),hpl,h2]
  ·have h4:=obj_apart _ _ _ _ _ _ ho ho' (by omega)
   refine⟨(hd++p).set i v,q,?_,by rw[List.length_set];exact hpl⟩
   rw[e2,List.set_append_left _ _ (by omega)]
theorem read_spoilt {l hd:List Int}{os:List O}(hl:l=hd++enc os)(hh:hd.length=272){k:Nat}{o:O}(ho:obj 272 os k=some o)(hk:o.Ok){j:Nat}(hj:j<o.tl.length)(v:Int):
 code (l.set (k+16+8*o.ws.length+j) v) k=0∧kindL (l.set (k+16+8*o.ws.length+j) v) k=o.k∧bodyL (l.set (k+16+8*o.ws.length+j) v) k=nums o.ws++o.tl.set j v:=by
 obtain⟨p,q,e,hp⟩:=obj_split _ _ _ _ ho
 have hpl:(hd++p).length=k:=by rw[List.length_append,hh,hp]
 have hbl:(nums o.ws++o.tl.set j v).length=o.body.length:=by unfold O.body;rw[List.length_append,List.length_append,List.length_set]
 have hfl:(front o.k o.body.length).length=16:=front_len _ _
 have e2:l.set (k+16+8*o.ws.length+j) v=(hd++p)++(objB o.k (nums o.ws++o.tl.set j v)++q):=by
  have e3:o.enc=front o.k o.body.length++(o.body++List.replicate (padN o.body.length) 0):=rfl
  rw[hl,e,←List.append_assoc,List.set_append_right _ _ (by omega),hpl,List.set_append_left _ _ (by rw[e3,List.length_append,List.length_append,hfl,O.body_len];omega),e3,List.set_append_right _ _ (by omega),hfl,List.set_append_left _ _ (by rw[O.body_len];omega)]
  unfold objB
  rw[hbl]
  congr 3
  congr 1
  unfold O.body
  rw[List.set_append_right _ _ (by rw[nums_len];omega),nums_len]
  congr 2
  omega
 rw[e2]
 have h8:=obj_8 _ _ _ _ (by decide) ho
 obtain⟨c1,c2,c3,c4⟩:=put_read (hd++p) q (nums o.ws++o.tl.set j v) o.k k hpl h8 hk.k.1 hk.k.2 (by rw[hbl];have:=hk.n;omega)
 exact⟨c1,c2,c4⟩
variable {m : Mk} {os : List O} {hs : Nat → List Nat} {mi : List Nat} {es : List (Nat × List Int)}
theorem data_spoilt (hH:Hold m os hs mi es){H:HD}{l hd:List Int}(hl:l=hd++enc os)(hh:hd.length=272)(h0:H.N 0=272){x:Nat}(hx:x<m.datas.length){j:Nat}(hj:j<(Mk.kn m x).text.length)(v:Int)
 (hne:Mk.sum m (Mk.kn m x).text≠ofS (keyB H.ic) (idL H.I) ((Mk.kn m x).text.set j v)):hcode9 H (l.set ((Mk.kn m x).at_+64+j) v) l.length (Mk.kn m x).at_=9:=by
 have D:=hH.dat x hx
 rw[kn_at hx]at hj hne⊢
 generalize m.datas[x]=d at*
 obtain⟨o,ho,hsh⟩:=shp_some D.sh
 have ok:=hH.rep.ok o (obj_mem _ _ _ _ ho)
 injection hsh with h1 h2 h3 h4
 obtain⟨c1,c2,c4⟩:=read_spoilt hl hh ho ok (j:=j) (by rw[h3];exact hj) v
 rw[h2,show d.at_+16+8*6+j=d.at_+64+j by omega]at c1 c2 c4
 rw[h3]at c4
 rw[h1]at c2
 have hbl:(nums o.ws++d.text.set j v).length=48+d.text.length:=by rw[List.length_append,nums_len,h2,List.length_set]
 have hbc:bcode (l.set (d.at_+64+j) v) d.at_ 1 6=0:=by
  unfold bcode
  rw[if_neg (by omega),c2,if_neg (by decide),c4,if_neg (by omega)]
 have hsz:l.length=endO os:=by rw[hl,List.length_append,hh];rfl
 have hlt:=shp_lt D.sh
 dsimp only at hlt
 have hnum:bnum (l.set (d.at_+64+j) v) d.at_ 1 6 0=Mk.sum m d.text:=by
  unfold bnum
  rw[if_pos hbc,c4,←D.w0]
  unfold wd
  rw[ho]
  have e:o.ws.getD 0 0=o.ws[0]'(by omega):=by simp[List.getElem?_eq_getElem (show 0<o.ws.length by omega)]
  show u8 _ (8*0)=o.ws.getD 0 0
  exact u8_nums _ _ 0 (by omega) (by rw[e];exact ok.ws _ (List.getElem_mem _))
 have hpay:bpay (l.set (d.at_+64+j) v) d.at_ 1 6=d.text.set j v:=by
  unfold bpay
  rw[if_pos hbc,c4,List.drop_left' (by rw[nums_len,h2])]
 have hdc:dcode H (l.set (d.at_+64+j) v) l.length d.at_=0:=by
  unfold dcode
  rw[if_pos ⟨by rw[h0];omega,by omega⟩,hbc]
 unfold hcode9
 rw[if_neg (by omega),hnum,hpay,if_neg hne]
theorem rec_bad {G:Nat→Prop}(hH:Hold m os hs mi es){H:HD}{l:List Int}(R:Std G l os){a:Nat}{body:List Int}{gg:Nat×Nat}(hE:shp os a=some ⟨3,0,body,gg⟩)(hga:G a){sq:Int}{real mono:Int}{K:Nat→Int}{who:List Nat}{X:Int}
 (hmax: ∀x∈who,(Mk.kn m x).at_≤1000000)(hsum: ∀x∈who,W64 (Mk.sum m (Mk.kn m x).text))
 (w4:body=entB sq real mono K X (prs (fun i=>((Mk.kn m (who.getD i 0)).at_:Int)) (fun i=>Mk.sum m (Mk.kn m (who.getD i 0)).text) who.length)){y:Nat}(hy:y∈who)(hbad:hcode9 H l l.length (Mk.kn m y).at_≠0):rcode H l l.length a≠0:=by
 intro hz
 obtain⟨i,hi,e⟩:=List.getElem_of_mem hy
 have hf:Wd (fun i=>((Mk.kn m (who.getD i 0)).at_:Int)) who.length:=fun j hj=>by
  have:=hmax _ (List.getElem_mem hj)
  rw[←getD_lt hj]at this
  dsimp only
  omega
 have hg:Wd (fun i=>Mk.sum m (Mk.kn m (who.getD i 0)).text) who.length:=fun j hj=>by
  have:=hsum _ (List.getElem_mem hj)
  rw[←getD_lt hj]at this
  exact this
 obtain⟨o,ho,hsh⟩:=shp_some hE
 have ok:=R.ok o (obj_mem _ _ _ _ ho)
 injection hsh with h1 h2 h3 h4
 obtain⟨c1,c2,c3,c4⟩:=R.read ho hga
 have hob:o.body=body:=by
  unfold O.body
  rw[List.eq_nil_of_length_eq_zero h2,h3]
  rfl
 rw[hob]at c4
 have hbl:body.length=48+16*who.length:=by rw[w4,entB_len]
 have hit:=ent_items sq real mono K X (fun i=>((Mk.kn m (who.getD i 0)).at_:Int)) (fun i=>Mk.sum m (Mk.kn m (who.getD i 0)).text) who.length i hi hf hg
 rw[←w4]at hit
 have hN:itN body=who.length:=by unfold itN;omega
 have h16:=rcode_short hz
 have k:=rc_of H l l.length (ecode9 H l l.length a) (eN l a) (itA (bodyL l a)) (itH (bodyL l a)) (eNum l a 40)
 have h9:ecode9 H l l.length a=0:=by
  by_cases h1:ecode9 H l l.length a=0
  ·exact h1
  ·have e:rcode H l l.length a=ecode9 H l l.length a:=k.a h1
   rw[hz]at e
   exact absurd e.symm h1
 have hEN:eN l a=who.length:=by
  have h9':=h9
  unfold ecode9 at h9'
  by_cases h2:H.N 0≤(a:Int)∧a<l.length
  ·rw[if_pos h2]at h9'
   obtain⟨_,_,t3⟩:=told_yes h9'
   rw[t3,c4,hN]
  ·rw[if_neg h2]at h9';cases h9'
 have hic:icode H l l.length (itA (bodyL l a)) (itH (bodyL l a)) i≠0:=by
  rw[icode_hash (ak:=(Mk.kn m y).at_) (by rw[c4,hit.1];(try dsimp only);rw[getD_lt hi,e]) hbad]
  exact hbad
 have hex: ∀n,(∃i,i<n∧icode H l l.length (itA (bodyL l a)) (itH (bodyL l a)) i≠0)→ ∃k,k<n∧(∀i,i<k→icode H l l.length (itA (bodyL l a)) (itH (bodyL l a)) i=0)∧icode H l l.length (itA (bodyL l a)) (itH (bodyL l a)) k≠0:=by
  intro n
  induction n with
  |zero=>rintro⟨i,hi,_⟩;omega
  |succ n ih=>
   rintro⟨i,hi,h⟩
   by_cases hlow: ∃i,i<n∧icode H l l.length (itA (bodyL l a)) (itH (bodyL l a)) i≠0
   ·obtain⟨k,k1,k2,k3⟩:=ih hlow
    exact⟨k,by omega,k2,k3⟩
   ·have hall: ∀i,i<n→icode H l l.length (itA (bodyL l a)) (itH (bodyL l a)) i=0:=fun i hi=>Classical.byContradiction fun h=>hlow ⟨i,hi,h⟩
    have:i=n:=Classical.byContradiction fun h2=>h (hall i (by omega))
    subst this
    exact⟨i,by omega,hall,h⟩
 obtain⟨q,q1,q2,q3⟩:=hex who.length ⟨i,hi,hic⟩
 have hr:=k.c h9 (by omega) q (by omega) q2 q3
 have hz2:rcode H l l.length a=icode H l l.length (itA (bodyL l a)) (itH (bodyL l a)) q:=hr
 rw[hz]at hz2
 exact q3 hz2.symm
def hasB (T:List Int)(r:RR):Bool:=decide (T∈r.1.map fun p=>pay p.1 p.2)
theorem has_who {m:Mk}{r:RR}{T:List Int}(hr:RROk r){who:List Nat}(w3:(who.map fun i=>(Mk.kn m i).text).Perm ((listL r.1).map fun q=>pay q.1 q.2)):hasB T r=true↔ ∃y∈who,(Mk.kn m y).text=T:=by
 unfold hasB
 rw[decide_eq_true_iff]
 constructor
 ·intro h
  obtain⟨p,hp,e⟩:=List.mem_map.1 h
  obtain⟨y,hy,e2⟩:=List.mem_map.1 (w3.mem_iff.2 (List.mem_map.2 ⟨p,(list_mem hr.list p).2 hp,rfl⟩))
  exact⟨y,hy,e2.trans e⟩
 ·rintro⟨y,hy,e⟩
  obtain⟨p,hp,e2⟩:=List.mem_map.1 (w3.mem_iff.1 (List.mem_map.2 ⟨y,hy,rfl⟩))
  exact List.mem_map.2 ⟨p,(list_mem hr.list p).1 hp,e2.trans e⟩
def spL (m:Mk)(st:Int)(k j:Nat)(v:Int):List Int:=(stL m st).set (k+64+j) v
section
variable {rs : List RR}
theorem sp_is {m:Mk}(h:Img m){st:Int}{k j:Nat}(hk:272≤k)(v:Int):spL m st k j v=(stH m st).bytes 21++(m.b.drop 272).set (k+64+j-272) v:=by
 unfold spL stL
 rw[List.set_append_right _ _ (by rw[HD.bytes_len];omega),HD.bytes_len]
theorem sp_len {m:Mk}(h:Img m)(st:Int)(k j:Nat)(v:Int):(spL m st k j v).length=m.b.length:=by
 unfold spL
 rw[List.length_set]
 exact st_len h st
theorem sp_says {m:Mk}(h:Img m){st:Int}(hs:0≤st∧st≤2){k:Nat}(hk:272≤k)(j:Nat)(v:Int):Says (hdOf (spL m st k j v)) (stH m st):=by
 rw[sp_is h hk]
 exact hd_back (stH m st) (st_ok h hs) (by show 0≤st∧st<256;omega) _
theorem sp_hcode {m:Mk}(h:Img m){st:Int}(hs:0≤st∧st≤2){k:Nat}(hk:272≤k)(j:Nat)(v:Int):Go1.hcode (spL m st k j v) m.b.length=0:=by
 have hl:=h.lens
 unfold Go1.hcode
 rw[if_neg (by omega),show Go1.magicB (spL m st k j v)=true by rw[sp_is h hk];exact magic_back _ _ _,if_neg (by simp),(sp_says h hs hk j v).fcode,st_fcode h hs,img_fcode h _ (by omega)]
theorem sp_end {m:Mk}(h:Img m){st:Int}(hs:0≤st∧st≤2){k:Nat}(hk:272≤k)(j:Nat)(v:Int):endV (hdOf (spL m st k j v))=(m.b.length:Int)∧endB (hdOf (spL m st k j v))=true:=by
 have s:=sp_says h hs hk j v
 have e0:=(s.N 0 (by decide)).trans (stH_N m st 0 (by decide))
 have e1:=(s.N 1 (by decide)).trans (stH_N m st 1 (by decide))
 obtain⟨l1,l2,l3⟩:=h.lens
 rw[if_neg (by decide),h.hg.n0]at e0
 rw[if_pos rfl]at e1
 unfold endV endB
 rw[e0,e1]
 constructor
 ·split<;>omega
 ·simp;omega
theorem sp_std (k:Kept m rs.length os hs mi es){x:Nat}(hx:x<m.datas.length){j:Nat}(hj:j<(Mk.kn m x).text.length)(st v:Int):Std (fun a=>a≠(Mk.kn m x).at_) (spL m st (Mk.kn m x).at_ j v) os:=by
 have D:=k.hold.dat x hx
 rw[←kn_at hx]at D
 obtain⟨o,ho,hsh⟩:=shp_some D.sh
 injection hsh with h1 h2 h3 h4
 have hn:=o.n_is
 rw[h2,h3]at hn
 exact std_set (hd:=(stH m st).bytes 21) (by unfold stL;rw[k.hold.rep.rep.eq]) (by rw[HD.bytes_len]) k.hold.rep.ok ho ⟨by omega,by omega⟩ v
theorem sp_chase (k:Kept m rs.length os hs mi es){x:Nat}(hx:x<m.datas.length){j:Nat}(hj:j<(Mk.kn m x).text.length){st:Int}(ht:0≤st∧st≤2)(v:Int):
 chase (hdOf (spL m st (Mk.kn m x).at_ j v)) (spL m st (Mk.kn m x).at_ j v) m.b.length ((hdOf (spL m st (Mk.kn m x).at_ j v)).N 8) 14 2 (m.b.length+1) [] ((hdOf (spL m st (Mk.kn m x).at_ j v)).N 11).toNat 0=(toI mi,0):=by
 have hI:=k.good.img
 have D:=k.hold.dat x hx
 rw[←kn_at hx]at D
 have h272:272≤(Mk.kn m x).at_:=(shp_lt D.sh).1
 have s:=sp_says hI ht h272 j v
 have hL:=sp_len hI st (Mk.kn m x).at_ j v
 have e0:=(s.N 0 (by decide)).trans (stH_N m st 0 (by decide))
 rw[if_neg (by decide),hI.hg.n0]at e0
 have e8:=(s.N 8 (by decide)).trans (stH_N m st 8 (by decide))
 rw[if_neg (by decide),k.n8]at e8
 have e11:=(s.N 11 (by decide)).trans (stH_N m st 11 (by decide))
 rw[if_neg (by decide),k.n11]at e11
 rw[e8,e11,Int.toNat_natCast]
 have q:=chase_arrG (h:=hdOf (spL m st (Mk.kn m x).at_ j v)) (sp_std k hx hj st v) e0 k.hold.mn k.rise (n:=rs.length) (Nat.le_of_eq k.len.symm) (fun y hy=>by have:=k.bd y hy;omega) (fun i hi hin=>by rw[hL];exact(k.bd _ (List.getElem_mem _)).2) (fun a ha han e=>by
  have s1:=k.hold.mn.sh a ha
  rw[e,D.sh]at s1
  injection s1 with s1
  injection s1 with s1
  cases s1) 14 2 (m.b.length+1) 0 0 (Nat.zero_le _) (Nat.zero_le _) (fun _=>rfl) (fun h=>absurd h (by decide)) (Nat.zero_le _) (by rw[hL];omega)
 rw[hL]at q
 have e:m.main.getD 0 0=m.main.headD 0:=by cases m.main<;>rfl
 rw[e,List.take_of_length_le (Nat.le_of_eq k.len)]at q
 exact q
theorem sp_rec (k:Kept m rs.length os hs mi es)(q:Recs m rs es){x:Nat}(hx:x<m.datas.length){j:Nat}(hj:j<(Mk.kn m x).text.length){st:Int}(ht:0≤st∧st≤2)(v:Int)(hne:Mk.sum m (Mk.kn m x).text≠ofS (keyB (hdOf (spL m st (Mk.kn m x).at_ j v)).ic) (idL (hdOf (spL m st (Mk.kn m x).at_ j v)).I) ((Mk.kn m x).text.set j v))(i:Nat)(hi:i<rs.length):
 (hasB (Mk.kn m x).text rs[i]=true→rcode (hdOf (spL m st (Mk.kn m x).at_ j v)) (spL m st (Mk.kn m x).at_ j v) m.b.length (mi.getD i 0)≠0)∧
 (hasB (Mk.kn m x).text rs[i]=false→rcode (hdOf (spL m st (Mk.kn m x).at_ j v)) (spL m st (Mk.kn m x).at_ j v) m.b.length (mi.getD i 0)=0∧(recP (hdOf (spL m st (Mk.kn m x).at_ j v)) (spL m st (Mk.kn m x).at_ j v) m.b.length (mi.getD i 0)).s=m.h.N 9-rs.length+i+1∧(recP (hdOf (spL m st (Mk.kn m x).at_ j v)) (spL m st (Mk.kn m x).at_ j v) m.b.length (mi.getD i 0)).r=rs[i].2.1∧(recP (hdOf (spL m st (Mk.kn m x).at_ j v)) (spL m st (Mk.kn m x).at_ j v) m.b.length (mi.getD i 0)).m=rs[i].2.2.1∧(∀j',j'<16→(recP (hdOf (spL m st (Mk.kn m x).at_ j v)) (spL m st (Mk.kn m x).at_ j v) m.b.length (mi.getD i 0)).K j'=rs[i].2.2.2 j')∧(∀z,z∈(recP (hdOf (spL m st (Mk.kn m x).at_ j v)) (spL m st (Mk.kn m x).at_ j v) m.b.length (mi.getD i 0)).pl↔z∈listL rs[i].1)):=by
 have hI:=k.good.img
 have D:=k.hold.dat x hx
 rw[←kn_at hx]at D
 have h272:272≤(Mk.kn m x).at_:=(shp_lt D.sh).1
 have s:=sp_says hI ht h272 j v
 have hL:=sp_len hI st (Mk.kn m x).at_ j v
 have hmx:=hI.len
 have e0:=(s.N 0 (by decide)).trans (stH_N m st 0 (by decide))
 rw[if_neg (by decide),hI.hg.n0]at e0
 have hie:i<es.length:=by have:=q.len;omega
 have hat:mi.getD i 0=es[i].1:=by
  rw[←k.ent,List.getD_eq_getElem?_getD,List.getElem?_eq_getElem (by rw[List.length_map];exact hie),List.getElem_map];rfl
 have hE:=k.hold.ent i hie
 obtain⟨who,w1,w2,w3,w4⟩:=q.ent i hi hie
 have hr:=q.ok rs[i] (List.getElem_mem hi)
 have hb1:=q.base
 have hb2:=q.top
 have hga:es[i].1≠(Mk.kn m x).at_:=fun e=>by
  rw[e,D.sh]at hE
  injection hE with hE
  injection hE with hE
  cases hE
 have hS:=sp_std k hx hj st v
 rw[hat]
 refine⟨fun hh=>?_,fun hh=>?_⟩
 ·obtain⟨y,hy,ey⟩:=(has_who hr w3).1 hh
  have hyx:y=x:=by
   have h1:(m.datas.map Kn.text)[y]'(by rw[List.length_map];exact w1 y hy)=(m.datas.map Kn.text)[x]'(by rw[List.length_map];exact hx):=by
    rw[List.getElem_map,List.getElem_map,←kn_at (w1 y hy),←kn_at hx]
    exact ey
   exact(List.getElem_inj k.hold.dtx).1 h1
  subst hyx
  have hbad:=data_spoilt k.hold (H:=hdOf (spL m st (Mk.kn m y).at_ j v)) (l:=stL m st) (hd:=(stH m st).bytes 21) (by unfold stL;rw[k.hold.rep.rep.eq]) (by rw[HD.bytes_len]) e0 hx hj v hne
  rw[st_len hI st]at hbad
  have r:=rec_bad k.hold hS (H:=hdOf (spL m st (Mk.kn m y).at_ j v)) hE hga (fun z hz=>by
   have h1:=(shp_lt (k.hold.dat z (w1 z hz)).sh).2
   rw[←kn_at (w1 z hz)]at h1
   have h2:=k.hold.rep.size
   omega) (fun z hz=>by
   have D2:=k.hold.dat z (w1 z hz)
   have h2:=wd_bd k.hold.rep (a:=(m.datas[z]'(w1 z hz)).at_) (j:=0)
   rw[D2.w0,←kn_at (w1 z hz)]at h2
   exact h2) w4 hy (by rw[hL];show hcode9 _ ((stL m st).set _ v) _ _≠0;rw[hbad];decide)
  rw[hL]at r
  exact r
 ·have hgw: ∀y∈who,(Mk.kn m y).at_≠(Mk.kn m x).at_:=fun y hy e=>by
   have h1:Mk.kn m y=Mk.kn m x:=by
    rw[kn_at (w1 y hy),kn_at hx]at e⊢
    exact k.hold.asc.inj (List.getElem_mem _) (List.getElem_mem _) e
   have h2:=(has_who hr w3).2 ⟨y,hy,by rw[h1]⟩
   rw[hh]at h2
   cases h2
  have r:=rec_readG k.hold hS (H:=hdOf (spL m st (Mk.kn m x).at_ j v)) e0 (s.ic.trans q.ic) (fun j' hj'=>(s.I j' (by omega)).trans (q.I j' hj')) (by rw[hL];omega) hE hga (sq:=m.h.N 9-(rs.length:Int)+(i:Int)+1) ⟨by omega,by omega⟩ (by omega) hr w1 w2 w3 w4 hgw
  rw[hL]at r
  exact r
theorem sp_good (k:Kept m rs.length os hs mi es)(q:Recs m rs es){x:Nat}(hx:x<m.datas.length){j:Nat}(hj:j<(Mk.kn m x).text.length){st:Int}(ht:0≤st∧st≤2)(v:Int)(hne:Mk.sum m (Mk.kn m x).text≠ofS (keyB (hdOf (spL m st (Mk.kn m x).at_ j v)).ic) (idL (hdOf (spL m st (Mk.kn m x).at_ j v)).I) ((Mk.kn m x).text.set j v)){b0:Int}(h9:m.h.N 9=b0+(rs.length:Int)):
 goodRecs (hdOf (spL m st (Mk.kn m x).at_ j v)) (spL m st (Mk.kn m x).at_ j v) m.b.length (toI mi) mi.length=((List.range rs.length).filter fun i=> !hasB (Mk.kn m x).text (rs.getD i ([],0,0,fun _=>0))).map (fun i=>jR (hdOf (spL m st (Mk.kn m x).at_ j v)) (spL m st (Mk.kn m x).at_ j v) m.b.length (toI mi) i)∧
 ∀i (hi:i<rs.length),hasB (Mk.kn m x).text rs[i]=false→SameP (jR (hdOf (spL m st (Mk.kn m x).at_ j v)) (spL m st (Mk.kn m x).at_ j v) m.b.length (toI mi) i) (rowP b0 i rs[i]):=by
 have hb:=q.base
 have hsr:=fun i hi=>sp_rec k q hx hj ht v hne i hi
 have hC: ∀i,jC (hdOf (spL m st (Mk.kn m x).at_ j v)) (spL m st (Mk.kn m x).at_ j v) m.b.length (toI mi) i=rcode (hdOf (spL m st (Mk.kn m x).at_ j v)) (spL m st (Mk.kn m x).at_ j v) m.b.length (mi.getD i 0):=fun i=>by
  show rcode _ _ _ ((toI mi).getD i 0).toNat=_
  rw[toI_nat]
 have hR: ∀i,jR (hdOf (spL m st (Mk.kn m x).at_ j v)) (spL m st (Mk.kn m x).at_ j v) m.b.length (toI mi) i=recP (hdOf (spL m st (Mk.kn m x).at_ j v)) (spL m st (Mk.kn m x).at_ j v) m.b.length (mi.getD i 0):=fun i=>by
  show recP _ _ _ ((toI mi).getD i 0).toNat=_
  rw[toI_nat]
 refine⟨?_,fun i hi hh=>?_⟩
 ·unfold goodRecs goodL
  rw[k.len,(goodR_filter (b:=b0) (by omega) rs.length fun i hi h0=>by
   rw[hC]at h0
   try dsimp only
   rw[hR]
   cases hh:hasB (Mk.kn m x).text rs[i]with
   |true=>exact absurd h0 ((hsr i hi).1 hh)
   |false=>rw[((hsr i hi).2 hh).2.1];omega).1]
  congr 1
  refine List.filter_congr fun i hi=>?_
  have hi:=List.mem_range.1 hi
  have e:rs.getD i ([],0,0,fun _=>0)=rs[i]:=by simp[List.getElem?_eq_getElem hi]
  rw[e,hC]
  cases hh:hasB (Mk.kn m x).text rs[i]with
  |true=>simpa using(hsr i hi).1 hh
  |false=>simpa using((hsr i hi).2 hh).1
 ·obtain⟨s1,s2,s3,s4,s5,s6⟩:=(hsr i hi).2 hh
  rw[hR]
  exact⟨by rw[s2];show _=b0+(i:Int)+1;omega,s3,s4,s5,fun y=>(s6 y).trans (list_mem (q.ok _ (List.getElem_mem hi)).list y)⟩
theorem text_at (k:Kept m rs.length os hs mi es){x:Nat}(hx:x<m.datas.length)(st:Int):((stL m st).drop ((Mk.kn m x).at_+64)).take (Mk.kn m x).text.length=(Mk.kn m x).text:=by
 have D:=k.hold.dat x hx
 rw[←kn_at hx]at D
 obtain⟨o,ho,hsh⟩:=shp_some D.sh
 injection hsh with h1 h2 h3 h4
 obtain⟨p,q,e,hp⟩:=obj_split _ _ _ _ ho
 have e3:o.enc=front o.k o.body.length++(o.body++List.replicate (padN o.body.length) 0):=rfl
 have e4:stL m st=((stH m st).bytes 21++p++front o.k o.body.length++nums o.ws)++(o.tl++(List.replicate (padN o.body.length) 0++q)):=by
  unfold stL
  rw[k.hold.rep.rep.eq,e,e3]
  unfold O.body
  simp only[List.append_assoc]
 have hlen:((stH m st).bytes 21++p++front o.k o.body.length++nums o.ws).length=(Mk.kn m x).at_+64:=by
  rw[List.length_append,List.length_append,List.length_append,HD.bytes_len,front_len,nums_len,h2]
  omega
 rw[e4,List.drop_left' hlen,←h3,List.take_left]
theorem text_sp (k:Kept m rs.length os hs mi es){x:Nat}(hx:x<m.datas.length)(st:Int)(j:Nat)(v:Int):((spL m st (Mk.kn m x).at_ j v).drop ((Mk.kn m x).at_+64)).take (Mk.kn m x).text.length=(Mk.kn m x).text.set j v:=by
 unfold spL
 rw[List.drop_set,if_neg (by omega),List.take_set,text_at k hx st]
 congr 1
 omega
end
end Jo
namespace Jn
end Jn
end Go.Proofs.YtiddkgcafpaekaaGreat
