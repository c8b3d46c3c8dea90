/-
  Texts beneath.
-/
import Derived.Test.YteaikbodkgjkdaaGreatQl43
set_option linter.unusedVariables false
set_option linter.unusedSimpArgs false
set_option maxRecDepth 100000
set_option maxHeartbeats 16000000
open Go.ChangeShapes Go.WideShapes Go.ChangeAt Go.RowKit
namespace Go.Proofs.YteaikbodkgjkdaaGreat
namespace Skb
open Bytes8 Blk8 Np Ga Ma Mb Mc Mf Mg Na Nb Nc Nh Nl Ns Nt Nq Nu Fa Fb Zg Pl8 Pr8
theorem rooms_mono (a:Nat): ∀k,rooms a≤rooms (a+k)
 |0=>yR _
 |k+1=>Nat.le_trans (rooms_mono a k) (by rw[show a+(k+1)=a+k+1 by omega,aAv];omega)
theorem aI4 {m:Mk}{arr:List Nat}{n fr item:Nat}(a:Chain m.b.length arr n)(c:fr+8≤m.b.length):
 (Mk.link m arr n fr item).1.b.length+2100*arr.length≤m.b.length+2100*(Mk.link m arr n fr item).2.1.length:=by
 unfold Mk.link
 by_cases e:n=rooms arr.length
 ·simp only[if_pos e]
  have d:=aD3 (item:=item) a c
  have f:=(aAE arr.length).2
  rw[d,yA,List.length_singleton]
  omega
 ·simp only[if_neg e]
  rw[aD4 a e]
  exact yR _
theorem aG3 {L n:Nat}{arr:List Nat}(h:Chain L arr n)(e:n≤120):arr.length≤5:=by
 rcases Nat.lt_or_ge 5 arr.length with c|c
 ·have b:=h.ge (by omega)
  have a:=rooms_mono 5 (arr.length-6)
  have d:rooms 5=124:=by decide
  rw[show 5+(arr.length-6)=arr.length-1 by omega]at a
  omega
 ·exact c
theorem aMc {k:Nat}{m:Mk}(h:InvM k 0 m)(e:Nat){d:Kn}(f:m.datas=[d]):
 (Mk.hitched e m 0).1.b.length+2100*d.arrays.length≤m.b.length+2100*(Mk.hitched e m 0).2.length∧(Mk.hitched e m 0).1.main=m.main:=by
 have j:Mk.kn m 0=d:=by unfold Mk.kn;rw[f];rfl
 have a:=h.inv.dat d (show d∈m.datas by rw[f];exact List.mem_singleton.2 rfl)
 obtain⟨g,l,n,c,o⟩:=a
 have g:d.at_+64≤m.b.length:=g
 have c:Chain m.b.length d.arrays (d.count-1):=c
 unfold Mk.hitched
 rw[j]
 by_cases i:d.count=0
 ·rw[if_pos i]
  refine⟨?_,rfl⟩
  show(put8 m.b (d.at_+40) (e:Int)).length+_≤m.b.length+2100*d.arrays.length
  rw[aAp _ _ _ (by omega)]
  exact yR _
 ·rw[if_neg i]
  exact⟨aI4 c (by omega),(Zf.aC6 m d.arrays (d.count-1) (d.at_+48) e).2.2.2⟩
theorem aNW {f:Nat}{m:Mk}(h:InvM f 0 m)(e:Nat){d:Kn}(a:m.datas=[d]):
 ∃d',(Mk.mark e m 0).datas=[d']∧d'.text=d.text∧d'.count=d.count+1∧(Mk.mark e m 0).b.length+2100*d.arrays.length≤m.b.length+2100*d'.arrays.length∧(Mk.mark e m 0).main=m.main:=by
 obtain⟨i,k⟩:=aMc h e a
 obtain⟨l,q,r,t,j,n,p,o⟩:=aCh h e 0 (by rw[a];exact Nat.zero_lt_one)
 have g:Mk.kn m 0=d:=by unfold Mk.kn;rw[a];rfl
 have c:=h.inv.dat d (show d∈m.datas by rw[a];exact List.mem_singleton.2 rfl)
 have s:d.at_+64≤m.b.length:=c.1
 rw[aC3,g]
 refine⟨{d with count:=d.count+1,arrays:=(Mk.hitched e m 0).2},?_,rfl,rfl,?_,k⟩
 ·show(Mk.hitched e m 0).1.datas.set 0 _=_
  rw[j,a]
  rfl
 ·show(put8 (Mk.hitched e m 0).1.b (d.at_+56) ((d.count+1:Nat):Int)).length+_≤_
  rw[aAp _ _ _ (by omega)]
  exact i
structure OneP (T:List Int)(m:Mk)(k:Nat):Prop where
 n9:m.h.N 9=(k:Int)
 n8:m.h.N 8=(k:Int)
 good:Nu.Good m
 rch: ∃rs,Nu.Reach m rs∧rs.length=k
 dat:(k=0∧m.datas=[]∧m.b.length≤500)∨ ∃d,m.datas=[d]∧d.text=T∧d.count=k∧m.b.length≤1200+80*k+2100*(m.main.length+d.arrays.length)
theorem aG4 {m:Mk}(n T:List Int)(h:m.datas=[]): ∃a s,(Mk.dataOf m n T).2.datas=[⟨T,a,s,0,[]⟩]:=by
 have e:idxK m.datas T=none:=by rw[h];rfl
 unfold Mk.dataOf
 rw[e]
 refine⟨m.b.length,Mk.dslot m T,?_⟩
 show(Mk.fieldOf (Mk.put1 m T) n).2.datas=_
 have c:(Mk.put1 m T).datas=[⟨T,m.b.length,Mk.dslot m T,0,[]⟩]:=by
  show m.datas++_=_
  rw[h]
  rfl
 unfold Mk.fieldOf
 cases findK (Mk.put1 m T).fields n with
 |some k=>exact c
 |none=>exact c
theorem aG5 {m:Mk}(n T:List Int){d:Kn}(h:m.datas=[d])(a:d.text=T):(Mk.dataOf m n T).2=m:=by
 have e:idxK m.datas T=some 0:=by rw[h];unfold idxK;simp[a]
 unfold Mk.dataOf
 rw[e]
theorem aMd {m:Mk}{k:Nat}{n v:List Int}(o:OneP (pay n v) m k)(hk:k≤100)(hn:AllB n∧AllB v∧n.length≤64∧v.length≤256)(real mono:Int)(K:Nat→Int):
 ∃d,(Mk.grown m [(n,v)] real mono K).datas=[d]∧d.text=pay n v∧d.count=k+1∧(Mk.grown m [(n,v)] real mono K).b.length≤1200+80*(k+1)+2100*((Mk.grown m [(n,v)] real mono K).main.length+d.arrays.length)∧(Mk.grown m [(n,v)] real mono K).main.length≤5∧d.arrays.length≤5:=by
 have I:=o.good.img.inv
 obtain⟨u,X,E,F,i5⟩:=aAs I [(n,v)] (fun q hq=>by rw[List.mem_singleton.1 hq];exact hn) 1 (yR _)
 have H: ∃d,(Mk.dataAll m [(n,v)]).1.datas=[d]∧d.text=pay n v∧d.count=k∧(Mk.dataAll m [(n,v)]).1.b.length≤1200+80*k+2100*((Mk.dataAll m [(n,v)]).1.main.length+d.arrays.length):=by
  rcases o.dat with⟨rfl,j,C⟩|⟨d,j,C,e3,e4⟩
  ·obtain⟨a,s,e⟩:=aG4 n (pay n v) j
   refine⟨_,e,rfl,rfl,?_⟩
   have F:(Mk.dataAll m [(n,v)]).1.b.length≤m.b.length+600*1:=F
   omega
  ·have e:=aG5 n (pay n v) j C
   have e':(Mk.dataAll m [(n,v)]).1=m:=e
   rw[e']
   exact⟨d,j,C,e3,e4⟩
 rw[show [(n,v)].take 1=[(n,v)]from rfl]at u X E F i5
 unfold Mk.grown
 dsimp only
 generalize ad:Mk.dataAll m [(n,v)]=s at*
 obtain⟨c,who⟩:=s
 dsimp only at*
 obtain⟨d0,Y,f2,f3,f4⟩:=H
 have J:who=[0]:=by
  match who,X,E with
  | [x],_,E=>
    have:=E x (List.mem_singleton.2 rfl)
    rw[Y]at this
    rw[show x=0 from Nat.lt_one_iff.1 this]
 subst J
 have G:=aDG c [0] ([(n,v)].map fun q=>pay q.1 q.2) (m.h.N 9+1) real mono K
 have G:(Mk.eobj c [0] ([(n,v)].map fun q=>pay q.1 q.2) (m.h.N 9+1) real mono K).length=80:=G
 have I2:=aA7 u (Mk.eobj c [0] ([(n,v)].map fun q=>pay q.1 q.2) (m.h.N 9+1) real mono K) (by omega) (by omega)
 have z:=aAM c (Mk.eobj c [0] ([(n,v)].map fun q=>pay q.1 q.2) (m.h.N 9+1) real mono K)
 generalize Mk.eobj c [0] ([(n,v)].map fun q=>pay q.1 q.2) (m.h.N 9+1) real mono K=g at*
 obtain⟨i,t,w,aa⟩:=u.mn
 have A:Chain (c.object g).b.length (c.object g).main i:=w.mono (by omega)
 have M:(c.object g).h.N 8=(i:Int):=t
 have Z:=u.len
 have e8:(m.h.N 8).toNat=i:=by rw[←i5.n8,t];rfl
 have ac:i=k:=by have:=o.n8;omega
 rw[e8]
 obtain⟨g1,g2,g3,g4,g5,g6,g7⟩:=aBx I2 c.b.length i M A (by omega) (by omega)
 have ae:(Mk.linked (c.object g) c.b.length i).b.length+2100*c.main.length≤(c.object g).b.length+2100*(Mk.linked (c.object g) c.b.length i).main.length:=aI4 A (by omega)
 generalize Mk.linked (c.object g) c.b.length i=f at*
 have l:InvM c.b.length 0 f:=⟨g1,fun k' hk'=>by rw[g4]at hk';exact(u.dat k' hk').2.2.2.2,by omega⟩
 have p:f.datas=[d0]:=g4.trans Y
 obtain⟨D,r1,r2,r3,r4,r5⟩:=aNW l c.b.length p
 have r:=(aFy l c.b.length 0 (by rw[p];exact Nat.zero_lt_one) (by decide)).1.inv
 have R:(Mk.mark c.b.length f 0).h.N 8=f.h.N 8:=(aFy l c.b.length 0 (by rw[p];exact Nat.zero_lt_one) (by decide)).2.2.2.2.2.2
 have L:Mk.markAll c.b.length f [0]=Mk.mark c.b.length f 0:=rfl
 rw[L]
 have z:(c.object g).b.length=c.b.length+80:=by rw[z,G]
 have y:=(r.dat D (show D∈(Mk.mark c.b.length f 0).datas by rw[r1];exact List.mem_singleton.2 rfl)).2.2.2.1
 obtain⟨nb,V,B,_⟩:=r.mn
 have ab:nb=k+1:=by
  have j:(Mk.mark c.b.length f 0).h.N 8+1=(nb:Int):=V
  rw[R,g7]at j
  have C:c.h.N 8+1=(nb:Int):=j
  omega
 have c1:(Mk.mark c.b.length f 0).main.length≤5:=aG3 B (by omega)
 have c2:D.arrays.length≤5:=aG3 y (by omega)
 refine⟨D,r1,r2.trans f2,by omega,?_,c1,c2⟩
 rw[r5]
 omega
theorem one_step {m:Mk}{k:Nat}{n v:List Int}(o:OneP (pay n v) m k)(A:k≤99)(l:AllB n∧AllB v∧n.length≤64∧v.length≤256)(r:AllP [(n,v)])(x:listE [(n,v)]=0)(j:listL [(n,v)]=[(n,v)]){real mono:Int}{K:Nat→Int}(c:0≤real∧real≤18446744073709551615)(f:0≤mono∧mono≤18446744073709551615)(i:IdOk K):
 Mk.acode m [(n,v)] real mono K=0∧OneP (pay n v) (Mk.after m [(n,v)] real mono K) (k+1):=by
 obtain⟨d,t,y,u,w,z,B⟩:=aMd o (by omega) l real mono K
 have p:m.h.N 9≠18446744073709551615:=by rw[o.n9];omega
 have b:Mk.acode m [(n,v)] real mono K=0:=by
  unfold Mk.acode
  rw[if_neg (by rw[x];simp),if_neg p,j,if_neg (by rw[o.good.most];omega)]
 have s:=aDa o.good r real mono K c f i
 have a:Mk.after m [(n,v)] real mono K=Mk.entered m [(n,v)] real mono K:=by unfold Mk.after;rw[if_pos b,j]
 obtain⟨rs,g,e⟩:=o.rch
 refine⟨b,?_,?_,s,⟨_,Nu.Reach.step g _ r real mono K c f i b,by rw[yA,e];rfl⟩,?_⟩
 ·rw[(aFB b).1,o.n9];rfl
 ·rw[a,aDb o.good.img.inv o.good.img.hg [(n,v)] (fun q hq=>by rw[List.mem_singleton.1 hq];exact l) (by show 1≤16;decide) o.good.img.len real mono K c f i p,o.n8];rfl
 ·rw[a]
  exact .inr ⟨d,t,y,u,w⟩
theorem aPw {C:Cf}(h:CfOk C)(hs:C.ds+C.fs≤4)(T:List Int):OneP T (Mk.new C 0) 0:=by
 refine⟨rfl,rfl,Nu.aDI h 0 (by decide),⟨_,Nu.Reach.mk h 0 (by decide),rfl⟩,.inl ⟨rfl,rfl,?_⟩⟩
 show(z272++tabB 4 C.ds++tabB 5 C.fs).length≤500
 rw[yA,yA,aAu,aAu]
 unfold z272
 rw[List.length_replicate]
 have:=h.ds
 have:=h.fs
 omega
end Skb
namespace SeekLooksW
open Bytes8 Blk8 Own8 OwnM OwnE Rows2 Od Ga Gb Gj Numb Ma Mb Mc Mh Na Nd Nh Np Nq Ns Nt Nu Rc Rn Rr Va Pr8 Pl8 Zg Zh Zj Zl Seq8 Kf Jb Jd Jf Ji Ska Skb Skc Skd Skf SeekRecordsW
open Go1 (hcode)
open Ni
open Fa (T pay)
def C0:Cf:=⟨fun _=>0,fun _=>0,fun _=>0,3,1,32768,false⟩
abbrev pA:List Int:=[65]
abbrev p1:List Int:=[49]
theorem aQz:CfOk C0:=⟨fun _=>by show(0:Int)≤0∧(0:Int)<256;decide,fun _=>by show(0:Int)≤0∧(0:Int)<256;decide,fun _=>by show(0:Int)≤0∧(0:Int)<256;decide,by decide,by decide,rfl⟩
theorem all1:AllP [(pA,p1)]:=fun q hq=>by
 rw[List.mem_singleton]at hq
 subst hq
 refine⟨fun x hx=>?_,fun x hx=>?_,by show 1≤maxLen;unfold maxLen;omega,by show 1≤maxLen;unfold maxLen;omega⟩
 ·rw[List.mem_singleton]at hx;subst hx;decide
 ·rw[List.mem_singleton]at hx;subst hx;decide
theorem le1:listE [(pA,p1)]=0:=by decide+kernel
theorem ll1:listL [(pA,p1)]=[(pA,p1)]:=by decide+kernel
theorem aMe {N d q:Nat}(h:q=N/2^d):q/2=N/2^(d+1):=by
 rw[h,Nat.div_div_eq_div_mul,Nat.pow_succ]
theorem aNX {N d q:Nat}(h:q=N/2^d)(e:0<q)(f:N≤100):d≤6:=by
 rcases Nat.lt_or_ge 6 d with c|c
 ·have b:2^7≤2^d:=Nat.pow_le_pow_right (by decide) c
  have a:N/2^d=0:=Nat.div_eq_of_lt (by omega)
  omega
 ·exact c
theorem aNY {N d:Nat}(h:0=N/2^d):N<2^d:=by
 have a:0<2^d:=Nat.two_pow_pos d
 rcases Nat.lt_or_ge N (2^d)with c|c
 ·exact c
 ·have:=Nat.div_pos c a
  omega
def wantS (N s:Nat):Nat:=if s≤N then max s 1-1 else N
theorem aNZ {N s:Nat}{R:Nat→RecP}(c: ∀k,k<N→(R k).s=(k:Int)+1):IsFst (fun k=>decide ((s:Int)≤(R k).s)) N (wantS N s):=by
 unfold wantS
 by_cases h:s≤N
 ·rw[if_pos h]
  have a:max s 1=if s≤1 then 1 else s:=by rw[Nat.max_def]
  refine⟨by rw[a];split<;>omega,fun k hk=>?_,fun hr=>?_⟩
  ·have b:k<N:=by rw[a]at hk;split at hk<;>omega
   have e:=c k b
   have: ¬(s:Int)≤(R k).s:=by rw[e];rw[a]at hk;split at hk<;>omega
   simpa using this
  ·have e:=c _ hr
   have:(s:Int)≤(R (max s 1-1)).s:=by rw[e,a];split<;>omega
   simpa using this
 ·rw[if_neg h]
  refine⟨yR _,fun k hk=>?_,fun hr=>absurd hr (Nat.lt_irrefl _)⟩
  have e:=c k hk
  have: ¬(s:Int)≤(R k).s:=by rw[e];omega
  simpa using this
theorem aN0 {w:World}{a N:Nat}{R:Nat→RecP}(i:Idx w a N R)(g: ∀k,k<N→(R k).s=(k:Int)+1)(s:Nat){d:Nat}(b:N<2^d):
 Calls Tryz.prog 34 #[.pointer (some ⟨a,0,none⟩),.int .u64 (s:Int)] w fun e w'=>(∃c:Nat,c≤d∧e= .returned (.tuple #[.int .i64 ((wantS N s:Nat):Int),.int .i64 (c:Int)]))∧Below w.heap.size w w':=
 (aHT i (s:Int)).mono fun e w' ⟨r,c,h1,h2,h3,h4⟩=>by
   have f:=h2.uniq (aNZ g)
   subst f
   exact⟨⟨c,h3 d b,h1⟩,h4⟩
attribute [local irreducible] Mk.cells HD.cells Cf.cells wpList Code.wp
theorem walk_main (n0:Int)(s0:Nat)(aM:s0≤18446744073709551615)(w:World):
 Calls Tryz.prog 8 #[.int .i64 n0,.int .u64 (s0:Int)] w fun e w'=>e= .returned (.bool true)∧Below w.heap.size w w':=by
 have aG:=aDM n0 100 (by decide)
 have aV:=aDN n0 100 (by decide)
 obtain⟨N,hN⟩: ∃N:Nat,numBelow n0 100=(N:Int):=⟨(numBelow n0 100).toNat,by omega⟩
 have a1:N≤99:=by omega
 have aw:=yH fun(W:World)=>aBV n0 100 N W (by decide) (by decide) hN
 clear aG aV hN
 go_enter Tryz.func8,Tryz.ntmps8
 go_upto_region 5 with(first
  |(go_at_call 30;((with_reducible refine(aDg _).mono ?_);rintro e w1 ⟨rfl,aE⟩;have B1:=yH aE;clear aE))
  |(go_at_call 36;((refine(aw.out _).mono ?_);rintro e y1 ⟨rfl,rfl⟩))
  |fail)
 have am:=yH (aDr C0 0 w1 (by decide) (by decide))
 go_upto_region 6 with(first
  |((with_reducible apply aAb 23);refine wpList_build_as rfl 86 _ rfl (Cf.cells C0).toArray (by kernel_rfl) ?_)
  |(go_at_call 37;(refine am.out.mono ?_);rintro e w2 ⟨g,rfl,⟨p2,L⟩,Y⟩;have ap:=yH L;have B2:=yH (B1.out.trans (Y.mono B1.out.size));have aD:=yH Y;clear L Y)
  |fail)
 have ak:=yH (aPw aQz (by decide) (pay pA p1))
 have an:=aD
 go_wp2_with fail
 go_loopw [7] (fun iv wr=> ∃(k:Nat) (p:Pl) (m:Mk),k≤N∧iv= .int .i64 (k:Int)∧Hid (At wr w1.heap.size g p m)∧Hid (OneP (pay pA p1) m k)∧Hid (Below w1.heap.size w1 wr)) (fun iv _=>N-Rn.natOf iv)
 case atStart=>exact⟨0,p2,Mk.new C0 0,Nat.zero_le _,rfl,ap,ak,an⟩
 case round=>
  clear ap ak an am aw B2 aD
  obtain⟨k,p,m,hk,rfl,hA,B,hB⟩:=hrel
  by_cases aL:k<N
  ·have aK:decide ((k:Int)<(N:Int))=true:=by simp;omega
   have a8:IntKind.i64.wrap ((k:Int)+1)=((k+1:Nat):Int):=by rw[IntKind.wrap_i64];omega
   have b3:=yH ((yB wr.heap.size wr).alloc (yR _) (.cells #[.string {data:= #[65]},.string {data:= #[49]}] 24))
   have aj:Prs (wr.alloc (.cells #[.string {data:= #[65]},.string {data:= #[49]}] 24)) (some ⟨wr.heap.size,0,none⟩) [(pA,p1)]:=by
    refine⟨all1,fun i hi=>?_⟩
    have h0:i=0:=by simpa using hi
    subst h0
    have hb:=Blk.new wr [.string {data:= #[65]},.string {data:= #[49]}] 24
    exact⟨wr.heap.size,0,rfl,hb.lt,hb.cell (i:=0) rfl,hb.cell (i:=1) rfl⟩
   have ac:IdOk (fun _=>0):=fun _=>by show(0:Int)≤0∧(0:Int)<256;decide
   have o:=one_step B.out (by omega) (by
    refine⟨?_,?_,by decide,by decide⟩
    ·intro x C;rw[List.mem_singleton]at C;subst C;decide
    ·intro x C;rw[List.mem_singleton]at C;subst C;decide) all1 le1 ll1 (real:=1) (mono:=1) (by decide) (by decide) ac
   have D:=aEW (some ⟨wr.heap.size,0,none⟩) [(pA,p1)] 1 1 1 1 (fun _=>0) _ (hA.out.below b3.out) B.out.good.img.inv aj rfl (by decide) B.out.good.img.len (by rw[B.out.good.most];decide) ac (by decide) (by decide) (by rw[B.out.n9];omega)
   unfold Appended at D
   rw[o.1,if_pos rfl]at D
   have af:=yH D
   have aR:=yH o.2
   have aN:=yH (fun q (X:p.foot g q)=>(hA.out.lt q X).1)
   have a5:=hB.out.size
   have ay:(wr.alloc (.cells #[.string {data:= #[65]},.string {data:= #[49]}] 24)).heap.size=wr.heap.size+1:=by simp
   clear aj ac o D
   generalize Mk.after m [(pA,p1)] 1 1 (fun _=>0)=m' at*
   generalize m.h.N 9+1=sq at*
   go_upto_region 10 with(first
    |(go_at_call 27;(refine af.out.mono ?_);rintro e w4 ⟨rfl,p4,J,u⟩;have aI:=yH J;have B4:=yH ((hB.out.trans (b3.out.mono hB.out.size)).trans (u.base (by rw[ay];omega) aN.out));clear J u)
    |fail)
   clear af ay
   go_wp2_with fail
   go_roundw
   case rel=>exact⟨k+1,p4,m',aL,rfl,aI,aR,B4⟩
   case measure=>simp[Rn.natOf];omega
  ·have aK:decide ((k:Int)<(N:Int))=false:=by simp;omega
   have aQ:k=N:=by omega
   subst aQ
   have hI:=B.out.good.img
   obtain⟨l1,l2,l3⟩:=hI.lens
   obtain⟨rs,au,G⟩:=B.out.rch
   obtain⟨os,hs,I,es,f,n⟩:=aGD au
   have ht:(0:Int)≤1∧(1:Int)≤2:=by decide
   have F:=yH (aD5 w1.heap.size g p.bb p.cb p.S m 1 wr hA.out.st (by omega) (aLO hI ht) (by have:=hI.inv.dep;omega))
   unfold Owned at F
   have ai:(HD.plus (Mk.head m 1) (m.depth:Int)).bytes 21++m.b.drop 272=stL m 1:=rfl
   rw[ai]at F
   have y:=yH fun(A:Option Addr) (c:Nat) (W:World) (hb:Bytes W A (stL m 1)) (hc:m.b.length≤c)=>aLR f ht A c W hb hc
   unfold Op16 at y
   obtain⟨ah,ao⟩:=aLQ f n ht (b0:=0) (by rw[B.out.n9,G];omega)
   have aq:(toI I).length=I.length:=List.length_map _
   rw[aq]at y
   have t:(goodL (hdOf (stL m 1)) (stL m 1) m.b.length (toI I) I.length).length=k:=by rw[←aDu,ah,G]
   have az:=yH (show ∀i,i<k→(rK (hdOf (stL m 1)) (stL m 1) m.b.length (toI I) I.length i).s=(i:Int)+1 from fun i hi=>by
    have h1:i<rs.length:=by rw[G];exact hi
    have h2:=(ao i h1).s
    rw[aLS _ _ _ _ _ i (by rw[t];exact hi)]at h2
    rw[h2]
    show(0:Int)+i+1=_
    omega)
   rw[t]at y
   clear hI l1 l2 G au f n ht ai ah ao aq t hA B
   generalize rK (hdOf (stL m 1)) (stL m 1) m.b.length (toI I) I.length=R at*
   generalize stL m 1=l at*
   generalize m.b.length=E at*
   have aF:((k:Int)!=(k:Int))=false:=by simp
   have BB:=yH (B1.out.trans (hB.out.mono B1.out.size))
   go_upto_region 15 with(first
    |(go_at_call 22;(refine F.out.mono ?_);rintro e w3 ⟨A3,c3,rfl,ad,ar⟩;have aB:=yH ad.bytes;have al:=yH (aBs ad);have B3:=yH (BB.out.trans (ar.mono BB.out.size));clear ad ar)
    |(go_at_call 31;(refine(y.out _ _ _ aB.out al.out.1).mono ?_);rintro e w4 ⟨gx,A9,c9,ys,B0,rfl,C,_,_,aC⟩;have HX:=yH C;have HL:=yH (aFN C);have B4:=yH (B3.out.trans (aC.mono B3.out.size));clear C aC)
    |(go_at_call 32;((refine HL.out.mono ?_);rintro e w6 ⟨rfl,rfl⟩))
    |fail)
   clear HL F y aB al B3 BB hB aF B1 l3
   have S4:=yH (yB w4.heap.size w4)
   have av:=yH (show k=k/2^0 by rw[Nat.pow_zero,Nat.div_one])
   go_wp2_with fail
   go_loopw [12,13] (fun dv qv wq=> ∃(d q:Nat),dv= .int .i64 (d:Int)∧qv= .int .i64 (q:Int)∧d≤7∧Hid (q=k/2^d)∧Hid (Below w4.heap.size w4 wq)) (fun _ qv _=>Rn.natOf qv)
   case atStart=>exact⟨0,k,rfl,rfl,by omega,av,S4⟩
   case round=>
    clear av S4
    rename World=>wq
    obtain⟨d,q,rfl,rfl,bj,X,H⟩:=hrel
    by_cases aO:0<q
    ·have aT:decide ((0:Int)<(q:Int))=true:=by simp;omega
     have a6:=aNX X.out aO (by omega)
     have a9:IntKind.i64.wrap ((d:Int)+1)=((d+1:Nat):Int):=by rw[IntKind.wrap_i64];omega
     have ba:((q:Int)).tdiv 2=((q/2:Nat):Int):=by rw[Int.tdiv_eq_ediv_of_nonneg (by omega)];omega
     have bk:IntKind.i64.wrap ((q/2:Nat):Int)=((q/2:Nat):Int):=by
      rw[IntKind.wrap_i64]
      have:=Nat.div_le_self q 2
      have h3:=X.out
      have:=Nat.div_le_self k (2^d)
      omega
     have V:wrap64 ((q:Int)/2)=((q/2:Nat):Int):=by
      have h3:=X.out
      have h4:=Nat.div_le_self k (2^d)
      unfold wrap64
      omega
     have aU:=yH (aMe X.out)
     go_wp2_with fail
     go_roundw
     case rel=>exact⟨d+1,q/2,rfl,congrArg (Value.int IntKind.i64) V,by omega,aU,H⟩
     case measure=>simp[Rn.natOf,V];omega
    ·have aT:decide ((0:Int)<(q:Int))=false:=by simp;omega
     have M:q=0:=by omega
     have ab:=aNY (show 0=k/2^d from M▸X.out)
     clear M
     have a4:=yH ab
     have ag:=yH aM
     have aP:=yH (HX.out.below H.out)
     have Bq:=yH (B4.out.trans (H.out.mono B4.out.size))
     have ae:=yH (yB wq.heap.size wq)
     have aS:=yH fun(s:Nat) (W:World) (hW:Below wq.heap.size wq W)=>aN0 (aP.out.below hW) az.out s ab
     clear ab X HX B4 az H
     go_wp2_with fail
     go_loopw [1,14] (fun sv iv wr=> ∃(i s:Nat),i≤2∧iv= .int .i64 (i:Int)∧sv= .int .u64 (s:Int)∧Hid (s≤18446744073709551615)∧Hid (Below wq.heap.size wq wr)) (fun _ iv _=>2-Rn.natOf iv)
     case atStart=>exact⟨0,s0,by omega,rfl,rfl,ag,ae⟩
     case round=>
      clear ag ae
      rename World=>wz
      obtain⟨i,s,hi,rfl,rfl,hs,j⟩:=hrel
      by_cases a3:i<2
      ·have aH:decide ((i:Int)<2)=true:=by simp;omega
       have bc:IntKind.i64.wrap ((i:Int)+1)=((i+1:Nat):Int):=by rw[IntKind.wrap_i64];omega
       have ax:=hs.out
       have z:=yH (aS.out s wz j.out)
       have a7:IntKind.u64.wrap (k:Int)=(k:Int):=by rw[IntKind.wrap_u64];omega
       have a0:IntKind.i64.wrap ((d:Int)+1)=(d:Int)+1:=by rw[IntKind.wrap_i64];omega
       have bi:((s:Int).tmod 110)=((s%110:Nat):Int):=by rw[Int.tmod_eq_emod_of_nonneg (by omega)];omega
       have bh:IntKind.u64.wrap ((s%110:Nat):Int)=((s%110:Nat):Int):=by rw[IntKind.wrap_u64];omega
       have aA:=yH (show s%110≤18446744073709551615 by omega)
       by_cases Z:s≤k
       ·have aJ:decide ((s:Int)≤(k:Int))=true:=by simp;omega
        obtain⟨v,hv,bl,bd⟩: ∃v:Nat,wantS k s=v∧(max (s:Int) 1=(v:Int)+1)∧v≤99:=by
         refine⟨_,rfl,?_,?_⟩
         ·unfold wantS;rw[if_pos Z];have:=Nat.le_max_right s 1;omega
         ·unfold wantS;rw[if_pos Z];omega
        rw[hv]at z
        have bg:(if(s:Int)<1 then(1:Int)else(s:Int))=(v:Int)+1:=by split<;>omega
        have aY:(if(s:Int)≤1 then(1:Int)else(s:Int))=(v:Int)+1:=by split<;>omega
        have bf:IntKind.i64.wrap ((v:Int)+1)=(v:Int)+1:=by rw[IntKind.wrap_i64];omega
        have a2:IntKind.i64.wrap ((v:Int)+1-1)=(v:Int):=by rw[IntKind.wrap_i64];omega
        have aX:(v:Int)+1-1=(v:Int):=by omega
        have aZ:IntKind.i64.wrap (v:Int)=(v:Int):=by rw[IntKind.wrap_i64];omega
        have aW:((v:Int)!=(v:Int))=false:=by simp
        go_upto_region 24 with(first
         |(go_at_call 34;((refine z.out.mono ?_);rintro e w8 ⟨⟨c,a,rfl⟩,r⟩;have aa:=yH a;have B8:=yH (j.out.trans (r.mono j.out.size));clear a r))
         |fail)
        have a:=aa.out
        have e1:decide ((c:Int)<0)=false:=by simp
        have e2:decide ((d:Int)+1<(c:Int))=false:=by simp;omega
        clear a hv hs ax
        go_wp2_with fail
        go_roundw
        case rel=>exact⟨i+1,s%110,by omega,rfl,rfl,aA,B8⟩
        case measure=>simp[Rn.natOf];omega
       ·have aJ:decide ((s:Int)≤(k:Int))=false:=by simp;omega
        have hv:wantS k s=k:=by unfold wantS;rw[if_neg Z]
        rw[hv]at z
        have aW:((k:Int)!=(k:Int))=false:=by simp
        go_upto_region 24 with(first
         |(go_at_call 34;((refine z.out.mono ?_);rintro e w8 ⟨⟨c,a,rfl⟩,r⟩;have aa:=yH a;have B8:=yH (j.out.trans (r.mono j.out.size));clear a r))
         |fail)
        have a:=aa.out
        have e1:decide ((c:Int)<0)=false:=by simp
        have e2:decide ((d:Int)+1<(c:Int))=false:=by simp;omega
        clear a hv hs ax
        go_wp2_with fail
        go_roundw
        case rel=>exact⟨i+1,s%110,by omega,rfl,rfl,aA,B8⟩
        case measure=>simp[Rn.natOf];omega
      ·have aH:decide ((i:Int)<2)=false:=by simp;omega
       go_wp2_with fail
       go_ret
       exact⟨rfl,Bq.out.trans (j.out.mono Bq.out.size)⟩
theorem walk (n0 a:Int)(w:World)(b:(Lit.int .i64 n0).wf=true)(hs:(Lit.int .u64 a).wf=true):
 Calls Tryz.prog 8 #[.int .i64 n0,.int .u64 a] w fun e w'=>e= .returned (.bool true)∧Below w.heap.size w w':=by
 simp[Lit.wf,IntKind.min,IntKind.max,IntKind.signed,IntKind.bits]at hs
 obtain⟨q,rfl⟩: ∃q:Nat,a=(q:Int):=⟨a.toNat,by omega⟩
 exact walk_main n0 q (by omega) w
end SeekLooksW
end Go.Proofs.YteaikbodkgjkdaaGreat
