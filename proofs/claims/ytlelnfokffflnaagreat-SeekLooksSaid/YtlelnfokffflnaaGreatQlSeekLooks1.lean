/-
  Texts beneath the proof.
-/
import Derived.Test.YtlelnfokffflnaaGreatQl44
set_option linter.unusedVariables false
set_option linter.unusedSimpArgs false
set_option maxRecDepth 100000
set_option maxHeartbeats 16000000
open Go.ChangeShapes Go.WideShapes Go.ChangeAt Go.RowKit
namespace Go.Proofs.YtlelnfokffflnaaGreat
namespace Skb
open Bytes8 Blk8 Np Ga Ma Mb Mc Mf Mg Na Nb Nc Nh Nl Ns Nt Nq Nu Fa Fb Zg Pl8 Pr8
theorem rooms_mono (a:Nat): ∀k,rooms a≤rooms (a+k)
 |0=>yR _
 |k+1=>Nat.le_trans (rooms_mono a k) (by rw[show a+(k+1)=a+k+1 by omega,aAv];omega)
theorem aI4 {m:Mk}{arr:List Nat}{n fr item:Nat}(c:Chain m.b.length arr n)(f:fr+8≤m.b.length):
 (Mk.link m arr n fr item).1.b.length+2100*arr.length≤m.b.length+2100*(Mk.link m arr n fr item).2.1.length:=by
 unfold Mk.link
 by_cases e:n=rooms arr.length
 ·simp only[if_pos e]
  have d:=aD3 (item:=item) c f
  have g:=(aAE arr.length).2
  rw[d,List.length_append,List.length_singleton]
  omega
 ·simp only[if_neg e]
  rw[aD4 c e]
  exact yR _
theorem aG3 {L n:Nat}{arr:List Nat}(h:Chain L arr n)(d:n≤120):arr.length≤5:=by
 rcases Nat.lt_or_ge 5 arr.length with c|c
 ·have f:=h.ge (by omega)
  have b:=rooms_mono 5 (arr.length-6)
  have g:rooms 5=124:=by decide
  rw[show 5+(arr.length-6)=arr.length-1 by omega]at b
  omega
 ·exact c
theorem aMc {k:Nat}{m:Mk}(h:InvM k 0 m)(e:Nat){d:Kn}(i:m.datas=[d]):
 (Mk.hitched e m 0).1.b.length+2100*d.arrays.length≤m.b.length+2100*(Mk.hitched e m 0).2.length∧(Mk.hitched e m 0).1.main=m.main:=by
 have l:Mk.kn m 0=d:=by unfold Mk.kn;rw[i];rfl
 have c:=h.inv.dat d (show d∈m.datas by rw[i];exact List.mem_singleton.2 rfl)
 obtain⟨j,n,p,f,o⟩:=c
 have j:d.at_+64≤m.b.length:=j
 have f:Chain m.b.length d.arrays (d.count-1):=f
 unfold Mk.hitched
 rw[l]
 by_cases g:d.count=0
 ·rw[if_pos g]
  refine⟨?_,rfl⟩
  show(put8 m.b (d.at_+40) (e:Int)).length+_≤m.b.length+2100*d.arrays.length
  rw[aAp _ _ _ (by omega)]
  exact yR _
 ·rw[if_neg g]
  exact⟨aI4 f (by omega),(Zf.aC6 m d.arrays (d.count-1) (d.at_+48) e).2.2.2⟩
theorem aNW {j:Nat}{m:Mk}(h:InvM j 0 m)(e:Nat){d:Kn}(c:m.datas=[d]):
 ∃d',(Mk.mark e m 0).datas=[d']∧d'.text=d.text∧d'.count=d.count+1∧(Mk.mark e m 0).b.length+2100*d.arrays.length≤m.b.length+2100*d'.arrays.length∧(Mk.mark e m 0).main=m.main:=by
 obtain⟨k,l⟩:=aMc h e c
 obtain⟨o,t,r,u,i,q,p,n⟩:=aCh h e 0 (by rw[c];exact Nat.zero_lt_one)
 have g:Mk.kn m 0=d:=by unfold Mk.kn;rw[c];rfl
 have f:=h.inv.dat d (show d∈m.datas by rw[c];exact List.mem_singleton.2 rfl)
 have s:d.at_+64≤m.b.length:=f.1
 rw[aC3,g]
 refine⟨{d with count:=d.count+1,arrays:=(Mk.hitched e m 0).2},?_,rfl,rfl,?_,l⟩
 ·show(Mk.hitched e m 0).1.datas.set 0 _=_
  rw[i,c]
  rfl
 ·show(put8 (Mk.hitched e m 0).1.b (d.at_+56) ((d.count+1:Nat):Int)).length+_≤_
  rw[aAp _ _ _ (by omega)]
  exact k
structure OneP (T:List Int)(m:Mk)(k:Nat):Prop where
 n9:m.h.N 9=(k:Int)
 n8:m.h.N 8=(k:Int)
 good:Nu.Good m
 rch: ∃rs,Nu.Reach m rs∧rs.length=k
 dat:(k=0∧m.datas=[]∧m.b.length≤500)∨ ∃d,m.datas=[d]∧d.text=T∧d.count=k∧m.b.length≤1200+80*k+2100*(m.main.length+d.arrays.length)
theorem aG4 {m:Mk}(n T:List Int)(h:m.datas=[]): ∃a s,(Mk.dataOf m n T).2.datas=[⟨T,a,s,0,[]⟩]:=by
 have e:idxK m.datas T=none:=by rw[h];rfl
 unfold Mk.dataOf
 rw[e]
 refine⟨m.b.length,Mk.dslot m T,?_⟩
 show(Mk.fieldOf (Mk.put1 m T) n).2.datas=_
 have c:(Mk.put1 m T).datas=[⟨T,m.b.length,Mk.dslot m T,0,[]⟩]:=by
  show m.datas++_=_
  rw[h]
  rfl
 unfold Mk.fieldOf
 cases findK (Mk.put1 m T).fields n with
 |some k=>exact c
 |none=>exact c
theorem aG5 {m:Mk}(n T:List Int){d:Kn}(h:m.datas=[d])(b:d.text=T):(Mk.dataOf m n T).2=m:=by
 have e:idxK m.datas T=some 0:=by rw[h];unfold idxK;simp[b]
 unfold Mk.dataOf
 rw[e]
theorem aMd {m:Mk}{k:Nat}{n v:List Int}(o:OneP (pay n v) m k)(hk:k≤100)(hn:AllB n∧AllB v∧n.length≤64∧v.length≤256)(real mono:Int)(K:Nat→Int):
 ∃d,(Mk.grown m [(n,v)] real mono K).datas=[d]∧d.text=pay n v∧d.count=k+1∧(Mk.grown m [(n,v)] real mono K).b.length≤1200+80*(k+1)+2100*((Mk.grown m [(n,v)] real mono K).main.length+d.arrays.length)∧(Mk.grown m [(n,v)] real mono K).main.length≤5∧d.arrays.length≤5:=by
 have I:=o.good.img.inv
 obtain⟨C,i2,F,M,i5⟩:=aAs I [(n,v)] (fun q hq=>by rw[List.mem_singleton.1 hq];exact hn) 1 (yR _)
 have V: ∃d,(Mk.dataAll m [(n,v)]).1.datas=[d]∧d.text=pay n v∧d.count=k∧(Mk.dataAll m [(n,v)]).1.b.length≤1200+80*k+2100*((Mk.dataAll m [(n,v)]).1.main.length+d.arrays.length):=by
  rcases o.dat with⟨rfl,p,E⟩|⟨d,p,E,e3,e4⟩
  ·obtain⟨a,s,e⟩:=aG4 n (pay n v) p
   refine⟨_,e,rfl,rfl,?_⟩
   have M:(Mk.dataAll m [(n,v)]).1.b.length≤m.b.length+600*1:=M
   omega
  ·have e:=aG5 n (pay n v) p E
   have e':(Mk.dataAll m [(n,v)]).1=m:=e
   rw[e']
   exact⟨d,p,E,e3,e4⟩
 rw[show [(n,v)].take 1=[(n,v)]from rfl]at C i2 F M i5
 unfold Mk.grown
 dsimp only
 generalize ac:Mk.dataAll m [(n,v)]=s at*
 obtain⟨c,who⟩:=s
 dsimp only at*
 obtain⟨d0,f1,f2,f3,f4⟩:=V
 have H:who=[0]:=by
  match who,i2,F with
  | [x],_,F=>
    have:=F x (List.mem_singleton.2 rfl)
    rw[f1]at this
    rw[show x=0 from Nat.lt_one_iff.1 this]
 subst H
 have L:=aDG c [0] ([(n,v)].map fun q=>pay q.1 q.2) (m.h.N 9+1) real mono K
 have L:(Mk.eobj c [0] ([(n,v)].map fun q=>pay q.1 q.2) (m.h.N 9+1) real mono K).length=80:=L
 have I2:=aA7 C (Mk.eobj c [0] ([(n,v)].map fun q=>pay q.1 q.2) (m.h.N 9+1) real mono K) (by omega) (by omega)
 have z:=aAM c (Mk.eobj c [0] ([(n,v)].map fun q=>pay q.1 q.2) (m.h.N 9+1) real mono K)
 generalize Mk.eobj c [0] ([(n,v)].map fun q=>pay q.1 q.2) (m.h.N 9+1) real mono K=i at*
 obtain⟨g,B,r,Y⟩:=C.mn
 have A:Chain (c.object i).b.length (c.object i).main g:=r.mono (by omega)
 have G:(c.object i).h.N 8=(g:Int):=B
 have Z:=C.len
 have e8:(m.h.N 8).toNat=g:=by rw[←i5.n8,B];rfl
 have ad:g=k:=by have:=o.n8;omega
 rw[e8]
 obtain⟨g1,g2,g3,g4,g5,g6,g7⟩:=aBx I2 c.b.length g G A (by omega) (by omega)
 have ab:(Mk.linked (c.object i) c.b.length g).b.length+2100*c.main.length≤(c.object i).b.length+2100*(Mk.linked (c.object i) c.b.length g).main.length:=aI4 A (by omega)
 generalize Mk.linked (c.object i) c.b.length g=f at*
 have j:InvM c.b.length 0 f:=⟨g1,fun k' hk'=>by rw[g4]at hk';exact(C.dat k' hk').2.2.2.2,by omega⟩
 have l:f.datas=[d0]:=g4.trans f1
 obtain⟨D,r1,r2,r3,r4,r5⟩:=aNW j c.b.length l
 have t:=(aFy j c.b.length 0 (by rw[l];exact Nat.zero_lt_one) (by decide)).1.inv
 have X:(Mk.mark c.b.length f 0).h.N 8=f.h.N 8:=(aFy j c.b.length 0 (by rw[l];exact Nat.zero_lt_one) (by decide)).2.2.2.2.2.2
 have R:Mk.markAll c.b.length f [0]=Mk.mark c.b.length f 0:=rfl
 rw[R]
 have z:(c.object i).b.length=c.b.length+80:=by rw[z,L]
 have u:=(t.dat D (show D∈(Mk.mark c.b.length f 0).datas by rw[r1];exact List.mem_singleton.2 rfl)).2.2.2.1
 obtain⟨nb,J,y,_⟩:=t.mn
 have aa:nb=k+1:=by
  have p:(Mk.mark c.b.length f 0).h.N 8+1=(nb:Int):=J
  rw[X,g7]at p
  have E:c.h.N 8+1=(nb:Int):=p
  omega
 have c1:(Mk.mark c.b.length f 0).main.length≤5:=aG3 y (by omega)
 have c2:D.arrays.length≤5:=aG3 u (by omega)
 refine⟨D,r1,r2.trans f2,by omega,?_,c1,c2⟩
 rw[r5]
 omega
theorem one_step {m:Mk}{k:Nat}{n v:List Int}(o:OneP (pay n v) m k)(E:k≤99)(p:AllB n∧AllB v∧n.length≤64∧v.length≤256)(t:AllP [(n,v)])(z:listE [(n,v)]=0)(r:listL [(n,v)]=[(n,v)]){real mono:Int}{K:Nat→Int}(j:0≤real∧real≤18446744073709551615)(i:0≤mono∧mono≤18446744073709551615)(g:IdOk K):
 Mk.acode m [(n,v)] real mono K=0∧OneP (pay n v) (Mk.after m [(n,v)] real mono K) (k+1):=by
 obtain⟨d,y,A,x,B,D,C⟩:=aMd o (by omega) p real mono K
 have s:m.h.N 9≠18446744073709551615:=by rw[o.n9];omega
 have c:Mk.acode m [(n,v)] real mono K=0:=by
  unfold Mk.acode
  rw[if_neg (by rw[z];simp),if_neg s,r,if_neg (by rw[o.good.most];omega)]
 have u:=aDa o.good t real mono K j i g
 have b:Mk.after m [(n,v)] real mono K=Mk.entered m [(n,v)] real mono K:=by unfold Mk.after;rw[if_pos c,r]
 obtain⟨rs,f,l⟩:=o.rch
 refine⟨c,?_,?_,u,⟨_,Nu.Reach.step f _ t real mono K j i g c,by rw[List.length_append,l];rfl⟩,?_⟩
 ·rw[(aFB c).1,o.n9];rfl
 ·rw[b,aDb o.good.img.inv o.good.img.hg [(n,v)] (fun q hq=>by rw[List.mem_singleton.1 hq];exact p) (by show 1≤16;decide) o.good.img.len real mono K j i g s,o.n8];rfl
 ·rw[b]
  exact .inr ⟨d,y,A,x,B⟩
theorem aPw {C:Cf}(h:CfOk C)(hs:C.ds+C.fs≤4)(T:List Int):OneP T (Mk.new C 0) 0:=by
 refine⟨rfl,rfl,Nu.aDI h 0 (by decide),⟨_,Nu.Reach.mk h 0 (by decide),rfl⟩,.inl ⟨rfl,rfl,?_⟩⟩
 show(z272++tabB 4 C.ds++tabB 5 C.fs).length≤500
 rw[List.length_append,List.length_append,aAu,aAu]
 unfold z272
 rw[List.length_replicate]
 have:=h.ds
 have:=h.fs
 omega
end Skb
namespace SeekLooksW
open Bytes8 Blk8 Own8 OwnM OwnE Rows2 Od Ga Gb Gj Numb Ma Mb Mc Mh Na Nd Nh Np Nq Ns Nt Nu Rc Rn Rr Va Pr8 Pl8 Zg Zh Zj Zl Seq8 Kf Jb Jd Jf Ji Ska Skb Skc Skd Skf SeekRecordsW
open Go1 (hcode)
open Ni
open Fa (T pay)
def C0:Cf:=⟨fun _=>0,fun _=>0,fun _=>0,3,1,32768,false⟩
abbrev pA:List Int:=[65]
abbrev p1:List Int:=[49]
theorem aQz:CfOk C0:=⟨fun _=>by show(0:Int)≤0∧(0:Int)<256;decide,fun _=>by show(0:Int)≤0∧(0:Int)<256;decide,fun _=>by show(0:Int)≤0∧(0:Int)<256;decide,by decide,by decide,rfl⟩
theorem all1:AllP [(pA,p1)]:=fun q hq=>by
 rw[List.mem_singleton]at hq
 subst hq
 refine⟨fun x hx=>?_,fun x hx=>?_,by show 1≤maxLen;unfold maxLen;omega,by show 1≤maxLen;unfold maxLen;omega⟩
 ·rw[List.mem_singleton]at hx;subst hx;decide
 ·rw[List.mem_singleton]at hx;subst hx;decide
theorem le1:listE [(pA,p1)]=0:=by decide+kernel
theorem ll1:listL [(pA,p1)]=[(pA,p1)]:=by decide+kernel
theorem aMe {N d q:Nat}(h:q=N/2^d):q/2=N/2^(d+1):=by
 rw[h,Nat.div_div_eq_div_mul,Nat.pow_succ]
theorem aNX {N d q:Nat}(h:q=N/2^d)(g:0<q)(b:N≤100):d≤6:=by
 rcases Nat.lt_or_ge 6 d with c|c
 ·have i:2^7≤2^d:=Nat.pow_le_pow_right (by decide) c
  have f:N/2^d=0:=Nat.div_eq_of_lt (by omega)
  omega
 ·exact c
theorem aNY {N d:Nat}(h:0=N/2^d):N<2^d:=by
 have b:0<2^d:=Nat.two_pow_pos d
 rcases Nat.lt_or_ge N (2^d)with c|c
 ·exact c
 ·have:=Nat.div_pos c b
  omega
def wantS (N s:Nat):Nat:=if s≤N then max s 1-1 else N
theorem aNZ {N s:Nat}{R:Nat→RecP}(c: ∀k,k<N→(R k).s=(k:Int)+1):IsFst (fun k=>decide ((s:Int)≤(R k).s)) N (wantS N s):=by
 unfold wantS
 by_cases h:s≤N
 ·rw[if_pos h]
  have b:max s 1=if s≤1 then 1 else s:=by rw[Nat.max_def]
  refine⟨by rw[b];split<;>omega,fun k hk=>?_,fun hr=>?_⟩
  ·have d:k<N:=by rw[b]at hk;split at hk<;>omega
   have e:=c k d
   have: ¬(s:Int)≤(R k).s:=by rw[e];rw[b]at hk;split at hk<;>omega
   simpa using this
  ·have e:=c _ hr
   have:(s:Int)≤(R (max s 1-1)).s:=by rw[e,b];split<;>omega
   simpa using this
 ·rw[if_neg h]
  refine⟨yR _,fun k hk=>?_,fun hr=>absurd hr (Nat.lt_irrefl _)⟩
  have e:=c k hk
  have: ¬(s:Int)≤(R k).s:=by rw[e];omega
  simpa using this
theorem aN0 {w:World}{b N:Nat}{R:Nat→RecP}(g:Idx w b N R)(f: ∀k,k<N→(R k).s=(k:Int)+1)(s:Nat){d:Nat}(i:N<2^d):
 Calls Tryz.prog 30 #[.pointer (some ⟨b,0,none⟩),.int .u64 (s:Int)] w fun e w'=>(∃c:Nat,c≤d∧e= .returned (.tuple #[.int .i64 ((wantS N s:Nat):Int),.int .i64 (c:Int)]))∧Below w.heap.size w w':=
 (aHW g (s:Int)).mono fun e w' ⟨r,c,h1,h2,h3,h4⟩=>by
   have j:=h2.uniq (aNZ f)
   subst j
   exact⟨⟨c,h3 d i,h1⟩,h4⟩
attribute [local irreducible] Mk.cells HD.cells Cf.cells wpList Code.wp
theorem walk_main (n0:Int)(s0:Nat)(aX:s0≤18446744073709551615)(w:World):
 Calls Tryz.prog 8 #[.int .i64 n0,.int .u64 (s0:Int)] w fun e w'=>e= .returned (.bool true)∧Below w.heap.size w w':=by
 have aT:=aDM n0 100 (by decide)
 have aQ:=aDN n0 100 (by decide)
 obtain⟨N,hN⟩: ∃N:Nat,numBelow n0 100=(N:Int):=⟨(numBelow n0 100).toNat,by omega⟩
 have a2:N≤99:=by omega
 have ah:=yH fun(W:World)=>aBV n0 100 N W (by decide) (by decide) hN
 clear aT aQ hN
 go_enter Tryz.func8,Tryz.ntmps8
 go_upto_region 5 with(first
  |(go_at_call 24;((with_reducible refine(aDg _).mono ?_);rintro e w1 ⟨rfl,am⟩;have B1:=yH am;clear am))
  |(go_at_call 18;((refine(ah.out _).mono ?_);rintro e y1 ⟨rfl,rfl⟩))
  |fail)
 have af:=yH (aDr C0 0 w1 (by decide) (by decide))
 go_upto_region 6 with(first
  |((with_reducible apply aAb 23);refine wpList_build_as rfl 79 _ rfl (Cf.cells C0).toArray (by kernel_rfl) ?_)
  |(go_at_call 32;(refine af.out.mono ?_);rintro e w2 ⟨g,rfl,⟨p2,X⟩,ae⟩;have aq:=yH X;have B2:=yH (B1.out.trans (ae.mono B1.out.size));have al:=yH ae;clear X ae)
  |fail)
 have ar:=yH (aPw aQz (by decide) (pay pA p1))
 have aF:=al
 go_wp2_with fail
 go_loopw [7] (fun iv wr=> ∃(k:Nat) (p:Pl) (m:Mk),k≤N∧iv= .int .i64 (k:Int)∧Hid (At wr w1.heap.size g p m)∧Hid (OneP (pay pA p1) m k)∧Hid (Below w1.heap.size w1 wr)) (fun iv _=>N-Rn.natOf iv)
 case atStart=>exact⟨0,p2,Mk.new C0 0,Nat.zero_le _,rfl,aq,ar,aF⟩
 case round=>
  clear aq ar aF af ah B2 al
  obtain⟨k,p,m,hk,rfl,hA,F,hB⟩:=hrel
  by_cases aO:k<N
  ·have aH:decide ((k:Int)<(N:Int))=true:=by simp;omega
   have ba:IntKind.i64.wrap ((k:Int)+1)=((k+1:Nat):Int):=by rw[IntKind.wrap_i64];omega
   have b3:=yH ((Below.refl wr.heap.size wr).alloc (yR _) (.cells #[.string {data:= #[65]},.string {data:= #[49]}] 82))
   have aB:Prs (wr.alloc (.cells #[.string {data:= #[65]},.string {data:= #[49]}] 82)) (some ⟨wr.heap.size,0,none⟩) [(pA,p1)]:=by
    refine⟨all1,fun i hi=>?_⟩
    have h0:i=0:=by simpa using hi
    subst h0
    have hb:=Blk.new wr [.string {data:= #[65]},.string {data:= #[49]}] 82
    exact⟨wr.heap.size,0,rfl,hb.lt,hb.cell (i:=0) rfl,hb.cell (i:=1) rfl⟩
   have aa:IdOk (fun _=>0):=fun _=>by show(0:Int)≤0∧(0:Int)<256;decide
   have u:=one_step F.out (by omega) (by
    refine⟨?_,?_,by decide,by decide⟩
    ·intro x B;rw[List.mem_singleton]at B;subst B;decide
    ·intro x B;rw[List.mem_singleton]at B;subst B;decide) all1 le1 ll1 (real:=1) (mono:=1) (by decide) (by decide) aa
   have G:=aEW (some ⟨wr.heap.size,0,none⟩) [(pA,p1)] 1 1 1 1 (fun _=>0) _ (hA.out.below b3.out) F.out.good.img.inv aB rfl (by decide) F.out.good.img.len (by rw[F.out.good.most];decide) aa (by decide) (by decide) (by rw[F.out.n9];omega)
   unfold Appended at G
   rw[u.1,if_pos rfl]at G
   have aC:=yH G
   have aJ:=yH u.2
   have aP:=yH (fun q (L:p.foot g q)=>(hA.out.lt q L).1)
   have bk:=hB.out.size
   have aj:(wr.alloc (.cells #[.string {data:= #[65]},.string {data:= #[49]}] 82)).heap.size=wr.heap.size+1:=by simp
   clear aB aa u G
   generalize Mk.after m [(pA,p1)] 1 1 (fun _=>0)=m' at*
   generalize m.h.N 9+1=sq at*
   go_upto_region 10 with(first
    |(go_at_call 33;(refine aC.out.mono ?_);rintro e w4 ⟨rfl,p4,M,o⟩;have aG:=yH M;have B4:=yH ((hB.out.trans (b3.out.mono hB.out.size)).trans (o.base (by rw[aj];omega) aP.out));clear M o)
    |fail)
   clear aC aj
   go_wp2_with fail
   go_roundw
   case rel=>exact⟨k+1,p4,m',aO,rfl,aG,aJ,B4⟩
   case measure=>simp[Rn.natOf];omega
  ·have aH:decide ((k:Int)<(N:Int))=false:=by simp;omega
   have aW:k=N:=by omega
   subst aW
   have hI:=F.out.good.img
   obtain⟨l1,l2,l3⟩:=hI.lens
   obtain⟨rs,ag,I⟩:=F.out.rch
   obtain⟨os,hs,J,es,j,r⟩:=aGE ag
   have ht:(0:Int)≤1∧(1:Int)≤2:=by decide
   have C:=yH (aD5 w1.heap.size g p.bb p.cb p.S m 1 wr hA.out.st (by omega) (aLP hI ht) (by have:=hI.inv.dep;omega))
   unfold Owned at C
   have az:(HD.plus (Mk.head m 1) (m.depth:Int)).bytes 21++m.b.drop 272=stL m 1:=rfl
   rw[az]at C
   have t:=yH fun(A:Option Addr) (c:Nat) (W:World) (hb:Bytes W A (stL m 1)) (hc:m.b.length≤c)=>aLS j ht A c W hb hc
   unfold Op16 at t
   obtain⟨ak,ax⟩:=aLR j r ht (b0:=0) (by rw[F.out.n9,I];omega)
   have av:(toI J).length=J.length:=List.length_map _
   rw[av]at t
   have z:(goodL (hdOf (stL m 1)) (stL m 1) m.b.length (toI J) J.length).length=k:=by rw[←aDu,ak,I]
   have aE:=yH (show ∀i,i<k→(rK (hdOf (stL m 1)) (stL m 1) m.b.length (toI J) J.length i).s=(i:Int)+1 from fun i hi=>by
    have h1:i<rs.length:=by rw[I];exact hi
    have h2:=(ax i h1).s
    rw[aLT _ _ _ _ _ i (by rw[z];exact hi)]at h2
    rw[h2]
    show(0:Int)+i+1=_
    omega)
   rw[z]at t
   clear hI l1 l2 I ag j r ht az ak ax av z hA F
   generalize rK (hdOf (stL m 1)) (stL m 1) m.b.length (toI J) J.length=R at*
   generalize stL m 1=l at*
   generalize m.b.length=E at*
   have aR:((k:Int)!=(k:Int))=false:=by simp
   have BB:=yH (B1.out.trans (hB.out.mono B1.out.size))
   go_upto_region 15 with(first
    |(go_at_call 27;(refine C.out.mono ?_);rintro e w3 ⟨A3,c3,rfl,Z,ay⟩;have aD:=yH Z.bytes;have an:=yH (aBs Z);have B3:=yH (BB.out.trans (ay.mono BB.out.size));clear Z ay)
    |(go_at_call 26;(refine(t.out _ _ _ aD.out an.out.1).mono ?_);rintro e w4 ⟨gx,A9,c9,ys,B0,rfl,B,_,_,ao⟩;have HX:=yH B;have HL:=yH (aFN B);have B4:=yH (B3.out.trans (ao.mono B3.out.size));clear B ao)
    |(go_at_call 28;((refine HL.out.mono ?_);rintro e w6 ⟨rfl,rfl⟩))
    |fail)
   clear HL C t aD an B3 BB hB aR B1 l3
   have S4:=yH (Below.refl w4.heap.size w4)
   have ai:=yH (show k=k/2^0 by rw[Nat.pow_zero,Nat.div_one])
   go_wp2_with fail
   go_loopw [12,13] (fun dv qv wq=> ∃(d q:Nat),dv= .int .i64 (d:Int)∧qv= .int .i64 (q:Int)∧d≤7∧Hid (q=k/2^d)∧Hid (Below w4.heap.size w4 wq)) (fun _ qv _=>Rn.natOf qv)
   case atStart=>exact⟨0,k,rfl,rfl,by omega,ai,S4⟩
   case round=>
    clear ai S4
    rename World=>wq
    obtain⟨d,q,rfl,rfl,a6,L,H⟩:=hrel
    by_cases aV:0<q
    ·have aN:decide ((0:Int)<(q:Int))=true:=by simp;omega
     have bc:=aNX L.out aV (by omega)
     have a7:IntKind.i64.wrap ((d:Int)+1)=((d+1:Nat):Int):=by rw[IntKind.wrap_i64];omega
     have bd:((q:Int)).tdiv 2=((q/2:Nat):Int):=by rw[Int.tdiv_eq_ediv_of_nonneg (by omega)];omega
     have bh:IntKind.i64.wrap ((q/2:Nat):Int)=((q/2:Nat):Int):=by
      rw[IntKind.wrap_i64]
      have:=Nat.div_le_self q 2
      have h3:=L.out
      have:=Nat.div_le_self k (2^d)
      omega
     have Y:wrap64 ((q:Int)/2)=((q/2:Nat):Int):=by
      have h3:=L.out
      have h4:=Nat.div_le_self k (2^d)
      unfold wrap64
      omega
     have aI:=yH (aMe L.out)
     go_wp2_with fail
     go_roundw
     case rel=>exact⟨d+1,q/2,rfl,congrArg (Value.int IntKind.i64) Y,by omega,aI,H⟩
     case measure=>simp[Rn.natOf,Y];omega
    ·have aN:decide ((0:Int)<(q:Int))=false:=by simp;omega
     have V:q=0:=by omega
     have ab:=aNY (show 0=k/2^d from V▸L.out)
     clear V
     have a5:=yH ab
     have aw:=yH aX
     have aL:=yH (HX.out.below H.out)
     have Bq:=yH (B4.out.trans (H.out.mono B4.out.size))
     have au:=yH (Below.refl wq.heap.size wq)
     have aK:=yH fun(s:Nat) (W:World) (hW:Below wq.heap.size wq W)=>aN0 (aL.out.below hW) aE.out s ab
     clear ab L HX B4 aE H
     go_wp2_with fail
     go_loopw [1,14] (fun sv iv wr=> ∃(i s:Nat),i≤2∧iv= .int .i64 (i:Int)∧sv= .int .u64 (s:Int)∧Hid (s≤18446744073709551615)∧Hid (Below wq.heap.size wq wr)) (fun _ iv _=>2-Rn.natOf iv)
     case atStart=>exact⟨0,s0,by omega,rfl,rfl,aw,au⟩
     case round=>
      clear aw au
      rename World=>wz
      obtain⟨i,s,hi,rfl,rfl,hs,n⟩:=hrel
      by_cases a4:i<2
      ·have aS:decide ((i:Int)<2)=true:=by simp;omega
       have bl:IntKind.i64.wrap ((i:Int)+1)=((i+1:Nat):Int):=by rw[IntKind.wrap_i64];omega
       have aA:=hs.out
       have D:=yH (aK.out s wz n.out)
       have a9:IntKind.u64.wrap (k:Int)=(k:Int):=by rw[IntKind.wrap_u64];omega
       have a1:IntKind.i64.wrap ((d:Int)+1)=(d:Int)+1:=by rw[IntKind.wrap_i64];omega
       have bm:((s:Int).tmod 110)=((s%110:Nat):Int):=by rw[Int.tmod_eq_emod_of_nonneg (by omega)];omega
       have bi:IntKind.u64.wrap ((s%110:Nat):Int)=((s%110:Nat):Int):=by rw[IntKind.wrap_u64];omega
       have ap:=yH (show s%110≤18446744073709551615 by omega)
       by_cases ad:s≤k
       ·have aM:decide ((s:Int)≤(k:Int))=true:=by simp;omega
        obtain⟨v,hv,bg,bj⟩: ∃v:Nat,wantS k s=v∧(max (s:Int) 1=(v:Int)+1)∧v≤99:=by
         refine⟨_,rfl,?_,?_⟩
         ·unfold wantS;rw[if_pos ad];have:=Nat.le_max_right s 1;omega
         ·unfold wantS;rw[if_pos ad];omega
        rw[hv]at D
        have bf:(if(s:Int)<1 then(1:Int)else(s:Int))=(v:Int)+1:=by split<;>omega
        have a0:(if(s:Int)≤1 then(1:Int)else(s:Int))=(v:Int)+1:=by split<;>omega
        have a8:IntKind.i64.wrap ((v:Int)+1)=(v:Int)+1:=by rw[IntKind.wrap_i64];omega
        have aZ:IntKind.i64.wrap ((v:Int)+1-1)=(v:Int):=by rw[IntKind.wrap_i64];omega
        have a3:(v:Int)+1-1=(v:Int):=by omega
        have aY:IntKind.i64.wrap (v:Int)=(v:Int):=by rw[IntKind.wrap_i64];omega
        have aU:((v:Int)!=(v:Int))=false:=by simp
        go_upto_region 24 with(first
         |(go_at_call 30;((refine D.out.mono ?_);rintro e w8 ⟨⟨c,f,rfl⟩,y⟩;have ac:=yH f;have B8:=yH (n.out.trans (y.mono n.out.size));clear f y))
         |fail)
        have f:=ac.out
        have e1:decide ((c:Int)<0)=false:=by simp
        have e2:decide ((d:Int)+1<(c:Int))=false:=by simp;omega
        clear f hv hs aA
        go_wp2_with fail
        go_roundw
        case rel=>exact⟨i+1,s%110,by omega,rfl,rfl,ap,B8⟩
        case measure=>simp[Rn.natOf];omega
       ·have aM:decide ((s:Int)≤(k:Int))=false:=by simp;omega
        have hv:wantS k s=k:=by unfold wantS;rw[if_neg ad]
        rw[hv]at D
        have aU:((k:Int)!=(k:Int))=false:=by simp
        go_upto_region 24 with(first
         |(go_at_call 30;((refine D.out.mono ?_);rintro e w8 ⟨⟨c,f,rfl⟩,y⟩;have ac:=yH f;have B8:=yH (n.out.trans (y.mono n.out.size));clear f y))
         |fail)
        have f:=ac.out
        have e1:decide ((c:Int)<0)=false:=by simp
        have e2:decide ((d:Int)+1<(c:Int))=false:=by simp;omega
        clear f hv hs aA
        go_wp2_with fail
        go_roundw
        case rel=>exact⟨i+1,s%110,by omega,rfl,rfl,ap,B8⟩
        case measure=>simp[Rn.natOf];omega
      ·have aS:decide ((i:Int)<2)=false:=by simp;omega
       go_wp2_with fail
       go_ret
       exact⟨rfl,Bq.out.trans (n.out.mono Bq.out.size)⟩
theorem walk (n0 b:Int)(w:World)(c:(Lit.int .i64 n0).wf=true)(hs:(Lit.int .u64 b).wf=true):
 Calls Tryz.prog 8 #[.int .i64 n0,.int .u64 b] w fun e w'=>e= .returned (.bool true)∧Below w.heap.size w w':=by
 simp[Lit.wf,IntKind.min,IntKind.max,IntKind.signed,IntKind.bits]at hs
 obtain⟨q,rfl⟩: ∃q:Nat,b=(q:Int):=⟨b.toNat,by omega⟩
 exact walk_main n0 q (by omega) w
end SeekLooksW
end Go.Proofs.YtlelnfokffflnaaGreat
