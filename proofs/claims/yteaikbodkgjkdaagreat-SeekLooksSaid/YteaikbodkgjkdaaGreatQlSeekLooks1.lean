/-
  Texts beneath.
-/
import Derived.Test.YteaikbodkgjkdaaGreatQl43
set_option linter.unusedVariables false
set_option linter.unusedSimpArgs false
set_option maxRecDepth 100000
set_option maxHeartbeats 16000000
open Go.ChangeShapes Go.WideShapes Go.ChangeAt Go.RowKit
namespace Go.Proofs.YteaikbodkgjkdaaGreat
namespace Skb
open Bytes8 Blk8 Np Ga Ma Mb Mc Mf Mg Na Nb Nc Nh Nl Ns Nt Nq Nu Fa Fb Zg Pl8 Pr8
theorem rooms_mono (a:Nat): ∀k,rooms a≤rooms (a+k)
 |0=>yR _
 |k+1=>Nat.le_trans (rooms_mono a k) (by rw[show a+(k+1)=a+k+1 by omega,aAv];omega)
theorem aI4 {m:Mk}{arr:List Nat}{n fr item:Nat}(hc:Chain m.b.length arr n)(hf:fr+8≤m.b.length):
 (Mk.link m arr n fr item).1.b.length+2100*arr.length≤m.b.length+2100*(Mk.link m arr n fr item).2.1.length:=by
 unfold Mk.link
 by_cases e:n=rooms arr.length
 ·simp only[if_pos e]
  have hL:=aD3 (item:=item) hc hf
  have hR:=(aAE arr.length).2
  rw[hL,List.length_append,List.length_singleton]
  omega
 ·simp only[if_neg e]
  rw[aD4 hc e]
  exact yR _
theorem aG3 {L n:Nat}{arr:List Nat}(h:Chain L arr n)(hn:n≤120):arr.length≤5:=by
 rcases Nat.lt_or_ge 5 arr.length with c|c
 ·have h1:=h.ge (by omega)
  have h2:=rooms_mono 5 (arr.length-6)
  have h3:rooms 5=124:=by decide
  rw[show 5+(arr.length-6)=arr.length-1 by omega]at h2
  omega
 ·exact c
theorem aMc {L0:Nat}{m:Mk}(h:InvM L0 0 m)(e:Nat){d:Kn}(hd:m.datas=[d]):
 (Mk.hitched e m 0).1.b.length+2100*d.arrays.length≤m.b.length+2100*(Mk.hitched e m 0).2.length∧(Mk.hitched e m 0).1.main=m.main:=by
 have hk:Mk.kn m 0=d:=by unfold Mk.kn;rw[hd];rfl
 have hdd:=h.inv.dat d (show d∈m.datas by rw[hd];exact List.mem_singleton.2 rfl)
 obtain⟨d1,d2,d3,d4,d5⟩:=hdd
 have d1:d.at_+64≤m.b.length:=d1
 have d4:Chain m.b.length d.arrays (d.count-1):=d4
 unfold Mk.hitched
 rw[hk]
 by_cases h0:d.count=0
 ·rw[if_pos h0]
  refine⟨?_,rfl⟩
  show(put8 m.b (d.at_+40) (e:Int)).length+_≤m.b.length+2100*d.arrays.length
  rw[aAp _ _ _ (by omega)]
  exact yR _
 ·rw[if_neg h0]
  exact⟨aI4 d4 (by omega),(Zf.aC6 m d.arrays (d.count-1) (d.at_+48) e).2.2.2⟩
theorem aNW {L0:Nat}{m:Mk}(h:InvM L0 0 m)(e:Nat){d:Kn}(hd:m.datas=[d]):
 ∃d',(Mk.mark e m 0).datas=[d']∧d'.text=d.text∧d'.count=d.count+1∧(Mk.mark e m 0).b.length+2100*d.arrays.length≤m.b.length+2100*d'.arrays.length∧(Mk.mark e m 0).main=m.main:=by
 obtain⟨q1,q2⟩:=aMc h e hd
 obtain⟨k1,k2,k3,k4,k5,k6,k7,k8⟩:=aCh h e 0 (by rw[hd];exact Nat.zero_lt_one)
 have hk:Mk.kn m 0=d:=by unfold Mk.kn;rw[hd];rfl
 have hdd:=h.inv.dat d (show d∈m.datas by rw[hd];exact List.mem_singleton.2 rfl)
 have d1:d.at_+64≤m.b.length:=hdd.1
 rw[aC3,hk]
 refine⟨{d with count:=d.count+1,arrays:=(Mk.hitched e m 0).2},?_,rfl,rfl,?_,q2⟩
 ·show(Mk.hitched e m 0).1.datas.set 0 _=_
  rw[k5,hd]
  rfl
 ·show(put8 (Mk.hitched e m 0).1.b (d.at_+56) ((d.count+1:Nat):Int)).length+_≤_
  rw[aAp _ _ _ (by omega)]
  exact q1
structure OneP (T:List Int)(m:Mk)(k:Nat):Prop where
 n9:m.h.N 9=(k:Int)
 n8:m.h.N 8=(k:Int)
 good:Nu.Good m
 rch: ∃rs,Nu.Reach m rs∧rs.length=k
 dat:(k=0∧m.datas=[]∧m.b.length≤500)∨ ∃d,m.datas=[d]∧d.text=T∧d.count=k∧m.b.length≤1200+80*k+2100*(m.main.length+d.arrays.length)
theorem aG4 {m:Mk}(n T:List Int)(h:m.datas=[]): ∃a s,(Mk.dataOf m n T).2.datas=[⟨T,a,s,0,[]⟩]:=by
 have e:idxK m.datas T=none:=by rw[h];rfl
 unfold Mk.dataOf
 rw[e]
 refine⟨m.b.length,Mk.dslot m T,?_⟩
 show(Mk.fieldOf (Mk.put1 m T) n).2.datas=_
 have e1:(Mk.put1 m T).datas=[⟨T,m.b.length,Mk.dslot m T,0,[]⟩]:=by
  show m.datas++_=_
  rw[h]
  rfl
 unfold Mk.fieldOf
 cases findK (Mk.put1 m T).fields n with
 |some k=>exact e1
 |none=>exact e1
theorem aG5 {m:Mk}(n T:List Int){d:Kn}(h:m.datas=[d])(ht:d.text=T):(Mk.dataOf m n T).2=m:=by
 have e:idxK m.datas T=some 0:=by rw[h];unfold idxK;simp[ht]
 unfold Mk.dataOf
 rw[e]
theorem aMd {m:Mk}{k:Nat}{n v:List Int}(o:OneP (pay n v) m k)(hk:k≤100)(hn:AllB n∧AllB v∧n.length≤64∧v.length≤256)(real mono:Int)(K:Nat→Int):
 ∃d,(Mk.grown m [(n,v)] real mono K).datas=[d]∧d.text=pay n v∧d.count=k+1∧(Mk.grown m [(n,v)] real mono K).b.length≤1200+80*(k+1)+2100*((Mk.grown m [(n,v)] real mono K).main.length+d.arrays.length)∧(Mk.grown m [(n,v)] real mono K).main.length≤5∧d.arrays.length≤5:=by
 have I:=o.good.img.inv
 obtain⟨i1,i2,i3,i4,i5⟩:=aAs I [(n,v)] (fun q hq=>by rw[List.mem_singleton.1 hq];exact hn) 1 (yR _)
 have hd0: ∃d,(Mk.dataAll m [(n,v)]).1.datas=[d]∧d.text=pay n v∧d.count=k∧(Mk.dataAll m [(n,v)]).1.b.length≤1200+80*k+2100*((Mk.dataAll m [(n,v)]).1.main.length+d.arrays.length):=by
  rcases o.dat with⟨rfl,e1,e2⟩|⟨d,e1,e2,e3,e4⟩
  ·obtain⟨a,s,e⟩:=aG4 n (pay n v) e1
   refine⟨_,e,rfl,rfl,?_⟩
   have i4:(Mk.dataAll m [(n,v)]).1.b.length≤m.b.length+600*1:=i4
   omega
  ·have e:=aG5 n (pay n v) e1 e2
   have e':(Mk.dataAll m [(n,v)]).1=m:=e
   rw[e']
   exact⟨d,e1,e2,e3,e4⟩
 rw[show [(n,v)].take 1=[(n,v)]from rfl]at i1 i2 i3 i4 i5
 unfold Mk.grown
 dsimp only
 generalize hmd:Mk.dataAll m [(n,v)]=s at*
 obtain⟨md,who⟩:=s
 dsimp only at*
 obtain⟨d0,f1,f2,f3,f4⟩:=hd0
 have hw0:who=[0]:=by
  match who,i2,i3 with
  | [x],_,i3=>
    have:=i3 x (List.mem_singleton.2 rfl)
    rw[f1]at this
    rw[show x=0 from Nat.lt_one_iff.1 this]
 subst hw0
 have he:=aDG md [0] ([(n,v)].map fun q=>pay q.1 q.2) (m.h.N 9+1) real mono K
 have he:(Mk.eobj md [0] ([(n,v)].map fun q=>pay q.1 q.2) (m.h.N 9+1) real mono K).length=80:=he
 have I2:=aA7 i1 (Mk.eobj md [0] ([(n,v)].map fun q=>pay q.1 q.2) (m.h.N 9+1) real mono K) (by omega) (by omega)
 have hol:=aAM md (Mk.eobj md [0] ([(n,v)].map fun q=>pay q.1 q.2) (m.h.N 9+1) real mono K)
 generalize Mk.eobj md [0] ([(n,v)].map fun q=>pay q.1 q.2) (m.h.N 9+1) real mono K=eo at*
 obtain⟨n8,hn8,hch8,hn8b⟩:=i1.mn
 have hC2:Chain (md.object eo).b.length (md.object eo).main n8:=hch8.mono (by omega)
 have hn2:(md.object eo).h.N 8=(n8:Int):=hn8
 have h304:=i1.len
 have e8:(m.h.N 8).toNat=n8:=by rw[←i5.n8,hn8];rfl
 have e8k:n8=k:=by have:=o.n8;omega
 rw[e8]
 obtain⟨g1,g2,g3,g4,g5,g6,g7⟩:=aBx I2 md.b.length n8 hn2 hC2 (by omega) (by omega)
 have hll:(Mk.linked (md.object eo) md.b.length n8).b.length+2100*md.main.length≤(md.object eo).b.length+2100*(Mk.linked (md.object eo) md.b.length n8).main.length:=aI4 hC2 (by omega)
 generalize Mk.linked (md.object eo) md.b.length n8=mL at*
 have hM0:InvM md.b.length 0 mL:=⟨g1,fun k' hk'=>by rw[g4]at hk';exact(i1.dat k' hk').2.2.2.2,by omega⟩
 have hdL:mL.datas=[d0]:=g4.trans f1
 obtain⟨d',r1,r2,r3,r4,r5⟩:=aNW hM0 md.b.length hdL
 have hMk:=(aFy hM0 md.b.length 0 (by rw[hdL];exact Nat.zero_lt_one) (by decide)).1.inv
 have hm8:(Mk.mark md.b.length mL 0).h.N 8=mL.h.N 8:=(aFy hM0 md.b.length 0 (by rw[hdL];exact Nat.zero_lt_one) (by decide)).2.2.2.2.2.2
 have hma:Mk.markAll md.b.length mL [0]=Mk.mark md.b.length mL 0:=rfl
 rw[hma]
 have hol:(md.object eo).b.length=md.b.length+80:=by rw[hol,he]
 have hchd:=(hMk.dat d' (show d'∈(Mk.mark md.b.length mL 0).datas by rw[r1];exact List.mem_singleton.2 rfl)).2.2.2.1
 obtain⟨nb,hnb,hchb,_⟩:=hMk.mn
 have hnb2:nb=k+1:=by
  have e1:(Mk.mark md.b.length mL 0).h.N 8+1=(nb:Int):=hnb
  rw[hm8,g7]at e1
  have e2:md.h.N 8+1=(nb:Int):=e1
  omega
 have c1:(Mk.mark md.b.length mL 0).main.length≤5:=aG3 hchb (by omega)
 have c2:d'.arrays.length≤5:=aG3 hchd (by omega)
 refine⟨d',r1,r2.trans f2,by omega,?_,c1,c2⟩
 rw[r5]
 omega
theorem one_step {m:Mk}{k:Nat}{n v:List Int}(o:OneP (pay n v) m k)(hk:k≤99)(hn:AllB n∧AllB v∧n.length≤64∧v.length≤256)(hP:AllP [(n,v)])(h1:listE [(n,v)]=0)(h2:listL [(n,v)]=[(n,v)]){real mono:Int}{K:Nat→Int}(hr:0≤real∧real≤18446744073709551615)(hm:0≤mono∧mono≤18446744073709551615)(hK:IdOk K):
 Mk.acode m [(n,v)] real mono K=0∧OneP (pay n v) (Mk.after m [(n,v)] real mono K) (k+1):=by
 obtain⟨d,e1,e2,e3,e4,e5,e6⟩:=aMd o (by omega) hn real mono K
 have h9:m.h.N 9≠18446744073709551615:=by rw[o.n9];omega
 have hA:Mk.acode m [(n,v)] real mono K=0:=by
  unfold Mk.acode
  rw[if_neg (by rw[h1];simp),if_neg h9,h2,if_neg (by rw[o.good.most];omega)]
 have ga:=aDa o.good hP real mono K hr hm hK
 have hAf:Mk.after m [(n,v)] real mono K=Mk.entered m [(n,v)] real mono K:=by unfold Mk.after;rw[if_pos hA,h2]
 obtain⟨rs,hrs,hrl⟩:=o.rch
 refine⟨hA,?_,?_,ga,⟨_,Nu.Reach.step hrs _ hP real mono K hr hm hK hA,by rw[List.length_append,hrl];rfl⟩,?_⟩
 ·rw[(aFB hA).1,o.n9];rfl
 ·rw[hAf,aDb o.good.img.inv o.good.img.hg [(n,v)] (fun q hq=>by rw[List.mem_singleton.1 hq];exact hn) (by show 1≤16;decide) o.good.img.len real mono K hr hm hK h9,o.n8];rfl
 ·rw[hAf]
  exact .inr ⟨d,e1,e2,e3,e4⟩
theorem aPw {C:Cf}(h:CfOk C)(hs:C.ds+C.fs≤4)(T:List Int):OneP T (Mk.new C 0) 0:=by
 refine⟨rfl,rfl,Nu.aDI h 0 (by decide),⟨_,Nu.Reach.mk h 0 (by decide),rfl⟩,.inl ⟨rfl,rfl,?_⟩⟩
 show(z272++tabB 4 C.ds++tabB 5 C.fs).length≤500
 rw[List.length_append,List.length_append,aAu,aAu]
 unfold z272
 rw[List.length_replicate]
 have:=h.ds
 have:=h.fs
 omega
end Skb
namespace SeekLooksW
open Bytes8 Blk8 Own8 OwnM OwnE Rows2 Od Ga Gb Gj Numb Ma Mb Mc Mh Na Nd Nh Np Nq Ns Nt Nu Rc Rn Rr Va Pr8 Pl8 Zg Zh Zj Zl Seq8 Kf Jb Jd Jf Ji Ska Skb Skc Skd Skf SeekRecordsW
open Go1 (hcode)
open Ni
open Fa (T pay)
def C0:Cf:=⟨fun _=>0,fun _=>0,fun _=>0,3,1,32768,false⟩
abbrev pA:List Int:=[65]
abbrev p1:List Int:=[49]
theorem aQz:CfOk C0:=⟨fun _=>by show(0:Int)≤0∧(0:Int)<256;decide,fun _=>by show(0:Int)≤0∧(0:Int)<256;decide,fun _=>by show(0:Int)≤0∧(0:Int)<256;decide,by decide,by decide,rfl⟩
theorem all1:AllP [(pA,p1)]:=fun q hq=>by
 rw[List.mem_singleton]at hq
 subst hq
 refine⟨fun x hx=>?_,fun x hx=>?_,by show 1≤maxLen;unfold maxLen;omega,by show 1≤maxLen;unfold maxLen;omega⟩
 ·rw[List.mem_singleton]at hx;subst hx;decide
 ·rw[List.mem_singleton]at hx;subst hx;decide
theorem le1:listE [(pA,p1)]=0:=by decide+kernel
theorem ll1:listL [(pA,p1)]=[(pA,p1)]:=by decide+kernel
theorem aMe {N d q:Nat}(h:q=N/2^d):q/2=N/2^(d+1):=by
 rw[h,Nat.div_div_eq_div_mul,Nat.pow_succ]
theorem aNX {N d q:Nat}(h:q=N/2^d)(h0:0<q)(hN:N≤100):d≤6:=by
 rcases Nat.lt_or_ge 6 d with c|c
 ·have h1:2^7≤2^d:=Nat.pow_le_pow_right (by decide) c
  have h2:N/2^d=0:=Nat.div_eq_of_lt (by omega)
  omega
 ·exact c
theorem aNY {N d:Nat}(h:0=N/2^d):N<2^d:=by
 have h1:0<2^d:=Nat.two_pow_pos d
 rcases Nat.lt_or_ge N (2^d)with c|c
 ·exact c
 ·have:=Nat.div_pos c h1
  omega
def wantS (N s:Nat):Nat:=if s≤N then max s 1-1 else N
theorem aNZ {N s:Nat}{R:Nat→RecP}(hR: ∀k,k<N→(R k).s=(k:Int)+1):IsFst (fun k=>decide ((s:Int)≤(R k).s)) N (wantS N s):=by
 unfold wantS
 by_cases h:s≤N
 ·rw[if_pos h]
  have hm:max s 1=if s≤1 then 1 else s:=by rw[Nat.max_def]
  refine⟨by rw[hm];split<;>omega,fun k hk=>?_,fun hr=>?_⟩
  ·have hk2:k<N:=by rw[hm]at hk;split at hk<;>omega
   have e:=hR k hk2
   have: ¬(s:Int)≤(R k).s:=by rw[e];rw[hm]at hk;split at hk<;>omega
   simpa using this
  ·have e:=hR _ hr
   have:(s:Int)≤(R (max s 1-1)).s:=by rw[e,hm];split<;>omega
   simpa using this
 ·rw[if_neg h]
  refine⟨yR _,fun k hk=>?_,fun hr=>absurd hr (Nat.lt_irrefl _)⟩
  have e:=hR k hk
  have: ¬(s:Int)≤(R k).s:=by rw[e];omega
  simpa using this
theorem aN0 {w:World}{gx N:Nat}{R:Nat→RecP}(ix:Idx w gx N R)(hR: ∀k,k<N→(R k).s=(k:Int)+1)(s:Nat){d:Nat}(hd:N<2^d):
 Calls Tryz.prog 34 #[.pointer (some ⟨gx,0,none⟩),.int .u64 (s:Int)] w fun e w'=>(∃c:Nat,c≤d∧e= .returned (.tuple #[.int .i64 ((wantS N s:Nat):Int),.int .i64 (c:Int)]))∧Below w.heap.size w w':=
 (aHT ix (s:Int)).mono fun e w' ⟨r,c,h1,h2,h3,h4⟩=>by
   have e1:=h2.uniq (aNZ hR)
   subst e1
   exact⟨⟨c,h3 d hd,h1⟩,h4⟩
attribute [local irreducible] Mk.cells HD.cells Cf.cells wpList Code.wp
theorem walk_main (n0:Int)(s0:Nat)(hs0:s0≤18446744073709551615)(w:World):
 Calls Tryz.prog 8 #[.int .i64 n0,.int .u64 (s0:Int)] w fun e w'=>e= .returned (.bool true)∧Below w.heap.size w w':=by
 have hn1:=aDM n0 100 (by decide)
 have hn2:=aDN n0 100 (by decide)
 obtain⟨N,hN⟩: ∃N:Nat,numBelow n0 100=(N:Int):=⟨(numBelow n0 100).toNat,by omega⟩
 have hN99:N≤99:=by omega
 have HNb:=yH fun(W:World)=>aBV n0 100 N W (by decide) (by decide) hN
 clear hn1 hn2 hN
 go_enter Tryz.func8,Tryz.ntmps8
 go_upto_region 5 with(first
  |(go_at_call 30;((with_reducible refine(aDg _).mono ?_);rintro e w1 ⟨rfl,hb1⟩;have B1:=yH hb1;clear hb1))
  |(go_at_call 36;((refine(HNb.out _).mono ?_);rintro e y1 ⟨rfl,rfl⟩))
  |fail)
 have HNw:=yH (aDr C0 0 w1 (by decide) (by decide))
 go_upto_region 6 with(first
  |((with_reducible apply aAb 23);refine wpList_build_as rfl 86 _ rfl (Cf.cells C0).toArray (by kernel_rfl) ?_)
  |(go_at_call 37;(refine HNw.out.mono ?_);rintro e w2 ⟨g,rfl,⟨p2,hat2⟩,hb2⟩;have HA2:=yH hat2;have B2:=yH (B1.out.trans (hb2.mono B1.out.size));have b12:=yH hb2;clear hat2 hb2)
  |fail)
 have HO2:=yH (aPw aQz (by decide) (pay pA p1))
 have HB2:=b12
 go_wp2_with fail
 go_loopw [7] (fun iv wr=> ∃(k:Nat) (p:Pl) (m:Mk),k≤N∧iv= .int .i64 (k:Int)∧Hid (At wr w1.heap.size g p m)∧Hid (OneP (pay pA p1) m k)∧Hid (Below w1.heap.size w1 wr)) (fun iv _=>N-Rn.natOf iv)
 case atStart=>exact⟨0,p2,Mk.new C0 0,Nat.zero_le _,rfl,HA2,HO2,HB2⟩
 case round=>
  clear HA2 HO2 HB2 HNw HNb B2 b12
  obtain⟨k,p,m,hk,rfl,hA,hO,hB⟩:=hrel
  by_cases hlt:k<N
  ·have dd1:decide ((k:Int)<(N:Int))=true:=by simp;omega
   have hw1:IntKind.i64.wrap ((k:Int)+1)=((k+1:Nat):Int):=by rw[IntKind.wrap_i64];omega
   have b3:=yH ((Below.refl wr.heap.size wr).alloc (yR _) (.cells #[.string {data:= #[65]},.string {data:= #[49]}] 24))
   have hPr:Prs (wr.alloc (.cells #[.string {data:= #[65]},.string {data:= #[49]}] 24)) (some ⟨wr.heap.size,0,none⟩) [(pA,p1)]:=by
    refine⟨all1,fun i hi=>?_⟩
    have h0:i=0:=by simpa using hi
    subst h0
    have hb:=Blk.new wr [.string {data:= #[65]},.string {data:= #[49]}] 24
    exact⟨wr.heap.size,0,rfl,hb.lt,hb.cell (i:=0) rfl,hb.cell (i:=1) rfl⟩
   have hkI:IdOk (fun _=>0):=fun _=>by show(0:Int)≤0∧(0:Int)<256;decide
   have hone:=one_step hO.out (by omega) (by
    refine⟨?_,?_,by decide,by decide⟩
    ·intro x hx;rw[List.mem_singleton]at hx;subst hx;decide
    ·intro x hx;rw[List.mem_singleton]at hx;subst hx;decide) all1 le1 ll1 (real:=1) (mono:=1) (by decide) (by decide) hkI
   have hAp:=aEW (some ⟨wr.heap.size,0,none⟩) [(pA,p1)] 1 1 1 1 (fun _=>0) _ (hA.out.below b3.out) hO.out.good.img.inv hPr rfl (by decide) hO.out.good.img.len (by rw[hO.out.good.most];decide) hkI (by decide) (by decide) (by rw[hO.out.n9];omega)
   unfold Appended at hAp
   rw[hone.1,if_pos rfl]at hAp
   have HAp:=yH hAp
   have HOn:=yH hone.2
   have hfo:=yH (fun q (hq:p.foot g q)=>(hA.out.lt q hq).1)
   have hsz:=hB.out.size
   have hsw:(wr.alloc (.cells #[.string {data:= #[65]},.string {data:= #[49]}] 24)).heap.size=wr.heap.size+1:=by simp
   clear hPr hkI hone hAp
   generalize Mk.after m [(pA,p1)] 1 1 (fun _=>0)=m' at*
   generalize m.h.N 9+1=sq at*
   go_upto_region 10 with(first
    |(go_at_call 27;(refine HAp.out.mono ?_);rintro e w4 ⟨rfl,p4,hat4,hpath⟩;have HA4:=yH hat4;have B4:=yH ((hB.out.trans (b3.out.mono hB.out.size)).trans (hpath.base (by rw[hsw];omega) hfo.out));clear hat4 hpath)
    |fail)
   clear HAp hsw
   go_wp2_with fail
   go_roundw
   case rel=>exact⟨k+1,p4,m',hlt,rfl,HA4,HOn,B4⟩
   case measure=>simp[Rn.natOf];omega
  ·have dd1:decide ((k:Int)<(N:Int))=false:=by simp;omega
   have hkN:k=N:=by omega
   subst hkN
   have hI:=hO.out.good.img
   obtain⟨l1,l2,l3⟩:=hI.lens
   obtain⟨rs,hrc,hrl⟩:=hO.out.rch
   obtain⟨os,hs,mi,es,hkept,hrecs⟩:=aGD hrc
   have ht:(0:Int)≤1∧(1:Int)≤2:=by decide
   have HIm:=yH (aD5 w1.heap.size g p.bb p.cb p.S m 1 wr hA.out.st (by omega) (aLO hI ht) (by have:=hI.inv.dep;omega))
   unfold Owned at HIm
   have hsl:(HD.plus (Mk.head m 1) (m.depth:Int)).bytes 21++m.b.drop 272=stL m 1:=rfl
   rw[hsl]at HIm
   have HOp:=yH fun(A:Option Addr) (c:Nat) (W:World) (hb:Bytes W A (stL m 1)) (hc:m.b.length≤c)=>aLR hkept ht A c W hb hc
   unfold Op16 at HOp
   obtain⟨hgl,hgs⟩:=aLQ hkept hrecs ht (b0:=0) (by rw[hO.out.n9,hrl];omega)
   have hlI:(toI mi).length=mi.length:=List.length_map _
   rw[hlI]at HOp
   have hgl2:(goodL (hdOf (stL m 1)) (stL m 1) m.b.length (toI mi) mi.length).length=k:=by rw[←aDu,hgl,hrl]
   have HGs:=yH (show ∀i,i<k→(rK (hdOf (stL m 1)) (stL m 1) m.b.length (toI mi) mi.length i).s=(i:Int)+1 from fun i hi=>by
    have h1:i<rs.length:=by rw[hrl];exact hi
    have h2:=(hgs i h1).s
    rw[aLS _ _ _ _ _ i (by rw[hgl2];exact hi)]at h2
    rw[h2]
    show(0:Int)+i+1=_
    omega)
   rw[hgl2]at HOp
   clear hI l1 l2 hrl hrc hkept hrecs ht hsl hgl hgs hlI hgl2 hA hO
   generalize rK (hdOf (stL m 1)) (stL m 1) m.b.length (toI mi) mi.length=R at*
   generalize stL m 1=l at*
   generalize m.b.length=E at*
   have hne:((k:Int)!=(k:Int))=false:=by simp
   have BB:=yH (B1.out.trans (hB.out.mono B1.out.size))
   go_upto_region 15 with(first
    |(go_at_call 22;(refine HIm.out.mono ?_);rintro e w3 ⟨A3,c3,rfl,ho3,hb3⟩;have HO3:=yH ho3.bytes;have HC3:=yH (aBs ho3);have B3:=yH (BB.out.trans (hb3.mono BB.out.size));clear ho3 hb3)
    |(go_at_call 31;(refine(HOp.out _ _ _ HO3.out HC3.out.1).mono ?_);rintro e w4 ⟨gx,A9,c9,ys,B0,rfl,hx,_,_,hb4⟩;have HX:=yH hx;have HL:=yH (aFN hx);have B4:=yH (B3.out.trans (hb4.mono B3.out.size));clear hx hb4)
    |(go_at_call 32;((refine HL.out.mono ?_);rintro e w6 ⟨rfl,rfl⟩))
    |fail)
   clear HL HIm HOp HO3 HC3 B3 BB hB hne B1 l3
   have S4:=yH (Below.refl w4.heap.size w4)
   have HQ0:=yH (show k=k/2^0 by rw[Nat.pow_zero,Nat.div_one])
   go_wp2_with fail
   go_loopw [12,13] (fun dv qv wq=> ∃(d q:Nat),dv= .int .i64 (d:Int)∧qv= .int .i64 (q:Int)∧d≤7∧Hid (q=k/2^d)∧Hid (Below w4.heap.size w4 wq)) (fun _ qv _=>Rn.natOf qv)
   case atStart=>exact⟨0,k,rfl,rfl,by omega,HQ0,S4⟩
   case round=>
    clear HQ0 S4
    rename World=>wq
    obtain⟨d,q,rfl,rfl,hd7,hq,hBq⟩:=hrel
    by_cases hq0:0<q
    ·have dd2:decide ((0:Int)<(q:Int))=true:=by simp;omega
     have hd6:=aNX hq.out hq0 (by omega)
     have hwd:IntKind.i64.wrap ((d:Int)+1)=((d+1:Nat):Int):=by rw[IntKind.wrap_i64];omega
     have hq2:((q:Int)).tdiv 2=((q/2:Nat):Int):=by rw[Int.tdiv_eq_ediv_of_nonneg (by omega)];omega
     have hwq:IntKind.i64.wrap ((q/2:Nat):Int)=((q/2:Nat):Int):=by
      rw[IntKind.wrap_i64]
      have:=Nat.div_le_self q 2
      have h3:=hq.out
      have:=Nat.div_le_self k (2^d)
      omega
     have hw64:wrap64 ((q:Int)/2)=((q/2:Nat):Int):=by
      have h3:=hq.out
      have h4:=Nat.div_le_self k (2^d)
      unfold wrap64
      omega
     have HQ2:=yH (aMe hq.out)
     go_wp2_with fail
     go_roundw
     case rel=>exact⟨d+1,q/2,rfl,congrArg (Value.int IntKind.i64) hw64,by omega,HQ2,hBq⟩
     case measure=>simp[Rn.natOf,hw64];omega
    ·have dd2:decide ((0:Int)<(q:Int))=false:=by simp;omega
     have hq00:q=0:=by omega
     have hkd:=aNY (show 0=k/2^d from hq00▸hq.out)
     clear hq00
     have HKd:=yH hkd
     have HS0:=yH hs0
     have HXq:=yH (HX.out.below hBq.out)
     have Bq:=yH (B4.out.trans (hBq.out.mono B4.out.size))
     have hSq:=yH (Below.refl wq.heap.size wq)
     have HSk:=yH fun(s:Nat) (W:World) (hW:Below wq.heap.size wq W)=>aN0 (HXq.out.below hW) HGs.out s hkd
     clear hkd hq HX B4 HGs hBq
     go_wp2_with fail
     go_loopw [1,14] (fun sv iv wr=> ∃(i s:Nat),i≤2∧iv= .int .i64 (i:Int)∧sv= .int .u64 (s:Int)∧Hid (s≤18446744073709551615)∧Hid (Below wq.heap.size wq wr)) (fun _ iv _=>2-Rn.natOf iv)
     case atStart=>exact⟨0,s0,by omega,rfl,rfl,HS0,hSq⟩
     case round=>
      clear HS0 hSq
      rename World=>wz
      obtain⟨i,s,hi,rfl,rfl,hs,hBz⟩:=hrel
      by_cases hi2:i<2
      ·have dd3:decide ((i:Int)<2)=true:=by simp;omega
       have hwi:IntKind.i64.wrap ((i:Int)+1)=((i+1:Nat):Int):=by rw[IntKind.wrap_i64];omega
       have hsb:=hs.out
       have HS1:=yH (HSk.out s wz hBz.out)
       have hwk:IntKind.u64.wrap (k:Int)=(k:Int):=by rw[IntKind.wrap_u64];omega
       have hwd2:IntKind.i64.wrap ((d:Int)+1)=(d:Int)+1:=by rw[IntKind.wrap_i64];omega
       have htm:((s:Int).tmod 110)=((s%110:Nat):Int):=by rw[Int.tmod_eq_emod_of_nonneg (by omega)];omega
       have hwm:IntKind.u64.wrap ((s%110:Nat):Int)=((s%110:Nat):Int):=by rw[IntKind.wrap_u64];omega
       have HSn:=yH (show s%110≤18446744073709551615 by omega)
       by_cases hle:s≤k
       ·have dle:decide ((s:Int)≤(k:Int))=true:=by simp;omega
        obtain⟨v,hv,hv0,hvk⟩: ∃v:Nat,wantS k s=v∧(max (s:Int) 1=(v:Int)+1)∧v≤99:=by
         refine⟨_,rfl,?_,?_⟩
         ·unfold wantS;rw[if_pos hle];have:=Nat.le_max_right s 1;omega
         ·unfold wantS;rw[if_pos hle];omega
        rw[hv]at HS1
        have hmx:(if(s:Int)<1 then(1:Int)else(s:Int))=(v:Int)+1:=by split<;>omega
        have hmx2:(if(s:Int)≤1 then(1:Int)else(s:Int))=(v:Int)+1:=by split<;>omega
        have hwv:IntKind.i64.wrap ((v:Int)+1)=(v:Int)+1:=by rw[IntKind.wrap_i64];omega
        have hwv2:IntKind.i64.wrap ((v:Int)+1-1)=(v:Int):=by rw[IntKind.wrap_i64];omega
        have hwv3:(v:Int)+1-1=(v:Int):=by omega
        have hwv4:IntKind.i64.wrap (v:Int)=(v:Int):=by rw[IntKind.wrap_i64];omega
        have hvv:((v:Int)!=(v:Int))=false:=by simp
        go_upto_region 24 with(first
         |(go_at_call 34;((refine HS1.out.mono ?_);rintro e w8 ⟨⟨c,hcd,rfl⟩,hb8⟩;have HCd:=yH hcd;have B8:=yH (hBz.out.trans (hb8.mono hBz.out.size));clear hcd hb8))
         |fail)
        have hcd:=HCd.out
        have e1:decide ((c:Int)<0)=false:=by simp
        have e2:decide ((d:Int)+1<(c:Int))=false:=by simp;omega
        clear hcd hv hs hsb
        go_wp2_with fail
        go_roundw
        case rel=>exact⟨i+1,s%110,by omega,rfl,rfl,HSn,B8⟩
        case measure=>simp[Rn.natOf];omega
       ·have dle:decide ((s:Int)≤(k:Int))=false:=by simp;omega
        have hv:wantS k s=k:=by unfold wantS;rw[if_neg hle]
        rw[hv]at HS1
        have hvv:((k:Int)!=(k:Int))=false:=by simp
        go_upto_region 24 with(first
         |(go_at_call 34;((refine HS1.out.mono ?_);rintro e w8 ⟨⟨c,hcd,rfl⟩,hb8⟩;have HCd:=yH hcd;have B8:=yH (hBz.out.trans (hb8.mono hBz.out.size));clear hcd hb8))
         |fail)
        have hcd:=HCd.out
        have e1:decide ((c:Int)<0)=false:=by simp
        have e2:decide ((d:Int)+1<(c:Int))=false:=by simp;omega
        clear hcd hv hs hsb
        go_wp2_with fail
        go_roundw
        case rel=>exact⟨i+1,s%110,by omega,rfl,rfl,HSn,B8⟩
        case measure=>simp[Rn.natOf];omega
      ·have dd3:decide ((i:Int)<2)=false:=by simp;omega
       go_wp2_with fail
       go_ret
       exact⟨rfl,Bq.out.trans (hBz.out.mono Bq.out.size)⟩
theorem walk (n0 s0:Int)(w:World)(hn:(Lit.int .i64 n0).wf=true)(hs:(Lit.int .u64 s0).wf=true):
 Calls Tryz.prog 8 #[.int .i64 n0,.int .u64 s0] w fun e w'=>e= .returned (.bool true)∧Below w.heap.size w w':=by
 simp[Lit.wf,IntKind.min,IntKind.max,IntKind.signed,IntKind.bits]at hs
 obtain⟨q,rfl⟩: ∃q:Nat,s0=(q:Int):=⟨s0.toNat,by omega⟩
 exact walk_main n0 q (by omega) w
end SeekLooksW
end Go.Proofs.YteaikbodkgjkdaaGreat
