/-
  Texts beneath the proof.
-/
import Derived.Test.YtlelnfokffflnaaGreatQl27
import Derived.Test.YtlelnfokffflnaaGreatQl28
set_option linter.unusedVariables false
set_option linter.unusedSimpArgs false
set_option maxRecDepth 100000
set_option maxHeartbeats 8000000
open Go.ChangeShapes Go.WideShapes Go.ChangeAt Go.RowKit
namespace Go.Proofs.YtlelnfokffflnaaGreat
namespace Nu
open Bytes8 Blk8 Own8 OwnA OwnE Rows2 Ob Od Ga Ma Kf Mb Mc Md Mf Mg Mh Mi Fa Fb Fc Dc Gb Na Nb Nc Nd Nf Nh Nk Nl Nm No Pr8 Pl8 Ni Np Nq Nr Ns Nt Seq8
theorem aOf:Elt 70 57 20 64 (.agg zR):=⟨Tryz.underlying57,by kernel_rfl,rfl,by decide⟩
structure Good (m:Mk):Prop where
 img:Img m
 most:m.C.most=32768
inductive Reach:Mk→List (List PR×Int×Int×(Nat→Int))→Prop
 |mk {C:Cf} (h:CfOk C) (after:Int) (ha:0≤after∧after≤18446744073709551615):Reach (Mk.new C after) []
 |step {m:Mk} {rs:List (List PR×Int×Int×(Nat→Int))} (h:Reach m rs) (L:List PR) (hP:AllP L) (real mono:Int) (K:Nat→Int) (hr:0≤real∧real≤18446744073709551615) (hm:0≤mono∧mono≤18446744073709551615) (hK:IdOk K) (h0:Mk.acode m L real mono K=0):Reach (Mk.after m L real mono K) (rs++ [(L,real,mono,K)])
structure GoodN (m:Mk)(n mo:Nat):Prop where
 img:Img m
 most:m.C.most=32768
 cnt:m.h.N 8=(n:Int)
 le:n≤mo
 rch: ∃rs,Reach m rs∧rs.length=n
theorem GoodN.good {m:Mk}{n a:Nat}(g:GoodN m n a):Good m:=⟨g.img,g.most⟩
theorem aDI {C:Cf}(h:CfOk C)(a:Int)(j:0≤a∧a≤18446744073709551615):Good (Mk.new C a):=by
 have d:=h.ds
 have e:=h.fs
 have g:(Mk.new C a).b.length=304+16*(C.ds+C.fs):=by
  show(z272++tabB 4 C.ds++tabB 5 C.fs).length=_
  rw[List.length_append,List.length_append,aAu,aAu]
  unfold z272
  rw[List.length_replicate]
  omega
 have c: ∀i,(Mk.new C a).h.N i=if i=9 then a else if i=7 then 2 else if i=6 then 288+16*(C.ds:Int)else if i=5 then 16*(C.fs:Int)else if i=4 then 304+16*(C.ds:Int)else if i=3 then 16*(C.ds:Int)else if i=2 then 288 else if i=0 then 272 else 0:=fun i=>rfl
 have f:Inv (Mk.new C a):=
  {F:=h.F,ds:=d,fs:=e
   n2:=rfl
   n4:=by
    show _=((Mk.tf (Mk.new C a):Nat):Int)
    rw[c 4]
    show 304+16*(C.ds:Int)=((304+16*C.ds:Nat):Int)
    omega
   len:=by show 304+16*(C.ds+C.fs)≤_;omega
   l8:=by omega
   dat:=fun k hk=>by cases hk
   fld:=fun k hk=>by cases hk
   mn:=⟨0,rfl,Chain.nil _,Nat.zero_le _⟩
   n7:=by rw[c 7];show 0≤(2:Int)∧(2:Int)≤_;omega
   n15:=by rw[c 15];show 0≤(0:Int)∧(0:Int)≤_;omega
   n16:=by rw[c 16];show 0≤(0:Int)∧(0:Int)≤_;omega
   n18:=by rw[c 18];show 0≤(0:Int)∧(0:Int)≤_;omega
   n19:=by rw[c 19];show 0≤(0:Int)∧(0:Int)≤_;omega
   dep:=Nat.zero_le _
   dn:=Nat.zero_le _
   fn:=Nat.zero_le _}
 refine⟨⟨f,⟨rfl,rfl,rfl,rfl,?_,fun i=>?_,fun i hi=>?_,⟨Int.le_refl _,by show(0:Int)≤4294967295;decide⟩,⟨Int.le_refl _,by show(0:Int)≤4294967295;decide⟩,⟨Int.le_refl _,by show(0:Int)≤18446744073709551615;decide⟩⟩,by omega⟩,h.most⟩
 ·show(if C.keyed then(4:Int)else 0)=0∨(if C.keyed then(4:Int)else 0)=4
  cases C.keyed
  ·exact .inl rfl
  ·exact .inr rfl
 ·show 0≤hdI3 C i∧hdI3 C i<256
  unfold hdI3
  repeat' split
  ·exact h.F _
  ·exact h.M _
  ·decide
  ·exact h.S _
 ·rw[c i]
  repeat' split
  all_goals omega
theorem aEC {E S:TypeId}{size e:Nat}{z:Value}(x:Elt E S size e z)(w:World)(y:TypeId)(base:Nat)(A:Option Addr)(n c:Nat)(xs:List Value)(B:OwnE E size w base A n c xs)(v:Addr)(m F:Nat)(a:List Value)(D:a.length=m*size)
 (b: ∀j u,a[j]? =some u→w.cell? (v.add j)=some u)(N: ∀u∈a,u.oneCell'=true)(L:n+m≤4611686018427387904)(d:(n+m)*e≤140737488355328)(J:n+m≤maxLen):
 ∃o C w',(Builtin.append_ #[S,S] y #[.slice A n c,.slice (some v) m F]).run Tryz.prog w= .ok (.slice o (n+m) C) w'∧OwnE E size w' base o (n+m) C (xs++a)∧w.grownBy w' (ownB A)∧(ownB o=ownB A∨(ownB o=some w.heap.size∧w.grownBy w' none)):=by
 obtain⟨o,C,w',q,V,R,p⟩:=aAA x w y base A n c xs B v m F a D b N L d J
 refine⟨o,C,w',q,V,R,?_⟩
 obtain⟨i,M,r⟩:=Option.map_eq_some_iff.1 x.info
 simp only[Prod.mk.injEq]at r
 obtain⟨hz,hs,G⟩:=r
 rcases B.2.2 with⟨e0,h0⟩|⟨g,Y,s,hv,Z,X,aa,ab,H,I⟩
 ·injection e0 with e1 e2 e3
  subst e1
  rcases p with p|p
  ·exact .inl p
  ·exact .inr ⟨p,R⟩
 ·injection hv with e1 e2 e3
  subst e1 e3
  by_cases f:n+m≤c
  ·have t:n*i.size+a.length≤s.size:=by rw[D,H,hs,←Nat.add_mul];exact Nat.mul_le_mul_right _ f
   have h:=run_append_room (P:=Tryz.prog) w S y E i x.under M g n c s X v m F a (by rw[hs];exact D) b N f t
   rw[h]at q
   injection q with hr3 _
   injection hr3 with hr4 _ _
   exact .inl (by rw[←hr4])
  ·have l: ∀j u,xs[j]? =some u→w.cell? ((⟨g,0,none⟩:Addr).add j)=some u:=B.2.cells (g:=g) rfl
   have h:=run_append_grow (P:=Tryz.prog) w S y E i z x.under M hz ⟨g,0,none⟩ n c xs (by rw[hs];exact B.2.1) l v m F a (by rw[hs];exact D) b (by omega) (by omega) (growslice_fits (by omega) (by rw[G];exact d))
   rw[h]at q
   injection q with hr3 hr4
   injection hr3 with hr5 _ _
   refine .inr ⟨by rw[←hr5];rfl,?_⟩
   rw[←hr4]
   have k:=World.grownBy_alloc w.drew (.cells (xs.toArray++a.toArray++Builtin.zeroCells z.cells (grownCap w (n+m) c E-(n+m))) E) none
   exact⟨k.os,k.tape,k.output,k.size,k.block⟩
theorem wpList_append_new {E S:TypeId}{size d:Nat}{z:Value}(B:Elt E S size d z){w:World}{i:Array Oper}{rest:List Oper}{o:Oper}{a:Act}{Q:Exit→Act→World→Prop}(p:o.guard=none)(s x:Operand)
 (l:o.op= .call {callee:= .builtin .append,args:= #[s,x],argTypes:= #[S,S]})
 (base:Nat)(A:Option Addr)(n c:Nat)(xs:List Value)(hs:a.eval s= .slice A n c)(F:OwnE E size w base A n c xs)(t:Addr)(m v:Nat)(b:List Value)(G:a.eval x= .slice (some t) m v)(H:b.length=m*size)
 (f: ∀j u,b[j]? =some u→w.cell? (t.add j)=some u)(I: ∀u∈b,u.oneCell'=true)(r:n+m≤4611686018427387904)(e:(n+m)*d≤140737488355328)(q:n+m≤maxLen)
 (h: ∀g k w',OwnE E size w' base g (n+m) k (xs++b)→w.grownBy w' (ownB A)→(ownB g=ownB A∨(ownB g=some w.heap.size∧w.grownBy w' none))→wpList Tryz.prog i Q rest (a.put o.dst (.slice g (n+m) k)) w'):wpList Tryz.prog i Q (o::rest) a w:=
 wpList_plain p fun _ hK=>by
  obtain⟨g,k,w',D,C,J,y⟩:=aEC B w o.type base A n c xs F t m v b H f I r e q
  unfold Oper.wp execOp
  simp only[l,resolve,invoke,builtin,Sem.run_bind,Sem.run_pure,Result.andThen_ok,List.map_toArray,List.map_cons,List.map_nil,hs,G,D]
  exact hK _ _ (h g k w' C J y)
structure Rws (w:World)(B0:Nat)(A:Option Addr)(n c:Nat)(xs:List Value):Prop where
 own:OwnE 70 20 w B0 A n c xs
 nil:n=0→A=none
 u8:0<n→ ∃v,xs[3]? =some (.int .u8 v)
theorem aID {w w':World}{x:Nat}{A:Option Addr}{n c:Nat}{xs:List Value}{Ft:Nat→Prop}{v:Value}{l:List Nat}(E:Arr w Ft v l)(h:Rws w x A n c xs){z:Option Addr}{M L:Nat}{p:List Value}(H:OwnE 70 20 w' x z M L (xs++p))(y:w.grownBy w' (ownB A))(F:ownB z=ownB A):Arr w' Ft v l:=by
 obtain⟨I,n2,R,rfl,N,u⟩:=E
 refine⟨I,n2,R,rfl,N,fun i hi=>?_⟩
 obtain⟨b,e,t,C,f⟩:=u i hi
 refine⟨b,e,yL t y.size,C,?_⟩
 by_cases d:ownB A=some b
 ·have J:0<n:=by
   rcases Nat.eq_zero_or_pos n with r|r
   ·rw[h.nil r]at d;cases d
   ·exact r
  have hlen:=OwnE.len h.own
  have s:xs.length=n*20:=hlen
  have g: ∀(j:Nat) (hj:j<xs.length),w.cell? ⟨b,j,none⟩=xs[j]? :=fun j hj=>by
   obtain⟨b2,V,_,_,G⟩:=OwnE.cell h.own (i:=j) (by omega)
   rw[V]at d
   have k:b2=b:=by simpa [ownB]using d
   subst k
   exact G
  have q:i<xs.length:=by
   rcases Nat.lt_or_ge i xs.length with q|q
   ·exact q
   ·exfalso
    obtain⟨Z,o,_,_,m⟩:=u 3 (by omega)
    rw[e]at o
    injection o with o
    injection o with o
    subst o
    rw[g 3 (by omega)]at m
    obtain⟨v,X⟩:=h.u8 J
    rw[X]at m
    cases m
  obtain⟨Y,D,_,_,B⟩:=OwnE.cell H (i:=i) (by rw[List.length_append];omega)
  rw[F.symm.trans (by rw[D])]at d
  have k:Y=b:=by simpa [ownB]using d
  subst k
  rw[B,List.getElem?_append_left q,←g i q]
  exact f
 ·exact(World.cell?_of_block (a:=⟨b,i,none⟩) (y.block b t (fun e=>d e.symm))).trans f
theorem At.rows {w w':World}{B g:Nat}{p:Pl}{m:Mk}(h:At w B g p m){s:Nat}{A:Option Addr}{n c:Nat}{xs:List Value}(o:Rws w s A n c xs)(j: ∀k,ownB A=some k→ ¬p.foot g k)
 {l:Option Addr}{u t:Nat}{d:List Value}(r:OwnE 70 20 w' s l u t (xs++d))(i:w.grownBy w' (ownB A))(f:ownB l=ownB A∨(ownB l=some w.heap.size∧w.grownBy w' none)):At w' B g p m:=by
 rcases f with f|⟨_,b⟩
 ·have hk:=KeptF.grow _ i
  have a: ∀k,p.foot g k→ ¬(ownB A=some k):=fun k hf e=>j k e hf
  exact
   {st:=⟨Kf.Blk.keptF h.st.st hk (a _ (.inl rfl)),Kf.Own.keptF h.st.own hk (fun k hk'=>a k (.inr (.inl (by injection hk' with e;exact e.symm)))),h.st.ne⟩
    dr:=Mf.OwnE.keptF h.dr hk (fun k e=>a k (.inr (.inr (.inl e))))
    fr:=Mf.OwnE.keptF h.fr hk (fun k e=>a k (.inr (.inr (.inr e))))
    dm:=h.dm,fm:=h.fm
    da:=fun q hq=>aID (h.da q hq) o r i f
    ma:=aID h.ma o r i f
    dg:=h.dg,fg:=h.fg,df:=h.df,gB:=h.gB,fo:=h.fo}
 ·exact h.below ⟨b.os,b.tape,b.output,b.size,fun k hk=>b.block k hk (by simp)⟩
theorem aIE {w w':World}{g:Nat}(h:KeptB w.heap.size g w w'):KeptF (One g) w w':=⟨h.os,h.tape,h.output,h.size,fun k hk hne=>h.block k hk hne⟩
structure RowsR (wr:World)(gq:Nat)(F:Nat→Prop)(A:Option Addr)(xs:List Value)(b0:Int)(rs:List (List PR×Int×Int×(Nat→Int))):Prop where
 len:xs.length=rs.length*20
 at_: ∀i (h:i<rs.length),∃(Ar:Option Addr) (nr cr:Nat),(xs.drop (20*i)).take 20=recL (b0+i+1) rs[i].2.1 rs[i].2.2.1 rs[i].2.2.2 (.slice Ar nr cr)∧rs[i].1.length=nr∧nr≤16∧Prs wr Ar rs[i].1∧ ∀b off,Ar=some ⟨b,off,none⟩→0<nr→b<wr.heap.size∧b≠gq∧ ¬F b∧ownB A≠some b
theorem RowsR.step {wr w':World}{d:Nat}{F m:Nat→Prop}{A o:Option Addr}{xs:List Value}{b0:Int}{rs:List (List PR×Int×Int×(Nat→Int))}(h:RowsR wr d F A xs b0 rs){G:Nat→Prop}(j:KeptF G wr w')(t: ∀b,b<wr.heap.size→G b→b=d∨F b∨ownB A=some b)
 (v: ∀b,b<wr.heap.size→m b→F b)(s: ∀b,b<wr.heap.size→ownB o=some b→ownB A=some b):RowsR w' d m o xs b0 rs:=
 ⟨h.len,fun i hi=>by
   obtain⟨w,l,cr,p,u,r,q,n⟩:=h.at_ i hi
   refine⟨w,l,cr,p,u,r,?_,fun b off e hn=>?_⟩
   ·rcases Nat.eq_zero_or_pos l with k|k
    ·rw[List.eq_nil_of_length_eq_zero (show rs[i].1.length=0 by omega)]
     exact Prs.nil _ _
    ·exact q.keptB j.size fun b off e hb=>j.block b hb fun hg=>by
      obtain⟨a,g,c,f⟩:=n b off e k
      rcases t b hb hg with h|h|h
      ·exact g h
      ·exact c h
      ·exact f h
   ·obtain⟨a,g,c,f⟩:=n b off e hn
    exact⟨yL a j.size,g,fun hf=>c (v b a hf),fun ha=>f (s b a ha)⟩⟩
theorem RowsR.snoc {wr:World}{g:Nat}{F:Nat→Prop}{A:Option Addr}{xs:List Value}{b0:Int}{rs:List (List PR×Int×Int×(Nat→Int))}(h:RowsR wr g F A xs b0 rs)(r:List PR×Int×Int×(Nat→Int)){e:Option Addr}{c cr:Nat}{n:Int}(hs:n=b0+rs.length+1)(q:r.1.length=c)(l:c≤16)(t:Prs wr e r.1)
 (p: ∀b off,e=some ⟨b,off,none⟩→0<c→b<wr.heap.size∧b≠g∧ ¬F b∧ownB A≠some b):RowsR wr g F A (xs++recL n r.2.1 r.2.2.1 r.2.2.2 (.slice e c cr)) b0 (rs++ [r]):=by
 have d:(recL n r.2.1 r.2.2.1 r.2.2.2 (.slice e c cr)).length=20:=rfl
 have u:=h.len
 refine⟨by rw[List.length_append,List.length_append,d,List.length_singleton,h.len];omega,fun i hi=>?_⟩
 by_cases a:i<rs.length
 ·obtain⟨j,f,m,o,s⟩:=h.at_ i a
  rw[List.getElem_append_left a]
  refine⟨j,f,m,?_,s⟩
  rw[List.drop_append_of_le_length (by omega),List.take_append_of_le_length (by rw[List.length_drop];omega)]
  exact o
 ·have k:i=rs.length:=by rw[List.length_append,List.length_singleton]at hi;omega
  subst k
  refine⟨e,c,cr,?_,?_⟩
  ·rw[List.drop_left' (by omega),List.take_of_length_le (by rw[d];exact yR _)]
   simp[hs]
  ·simpa using⟨q,l,t,p⟩
theorem aFB {m:Mk}{L:List PR}{real mono:Int}{K:Nat→Int}(a:Mk.acode m L real mono K=0):(Mk.after m L real mono K).h.N 9=m.h.N 9+1∧m.h.N 9≠18446744073709551615:=by
 refine⟨?_,fun h9=>?_⟩
 ·unfold Mk.after
  rw[if_pos a]
  show(Mk.told _ _ _ _ _ _ _).h.N 9=_
  rw[aEV _ _ _ _ _ _ _ _ (by decide),if_neg (by decide),if_neg (by decide),if_pos rfl]
 ·unfold Mk.acode at a
  by_cases b:listE L=0
  ·rw[if_neg (by simpa using b),if_pos h9]at a
   cases a
  ·rw[if_pos b]at a;exact absurd a b
structure LM (wr:World)(B0 B g gq:Nat)(a:Option Addr)(len cap:Nat)(f:Nat→Int)(A:Option Addr)(n c:Nat)(w:World)(mo:Nat):Prop where
 jr: ∃p m rs xs b0,At wr B g p m∧GoodN m n mo∧(∀k,ownB A=some k→ ¬p.foot g k)∧Rws wr B A n c xs∧Reach m rs∧rs.length=n∧m.h.N 9=b0+(n:Int)∧RowsR wr gq (p.foot g) A xs b0 rs
 sq: ∃k,SeqIn wr gq a len cap f k
 kp:KeptB B0 gq w wr
def MadeJ (gq mo:Nat)(w:World)(e:Ending)(w':World):Prop:= ∃(g:Nat) (A:Option Addr) (n c B:Nat) (p:Pl) (m:Mk),e= .returned (.tuple #[.pointer (some ⟨g,0,none⟩),.slice A n c])∧w.heap.size≤B∧At w' B g p m∧GoodN m n mo∧KeptB w.heap.size gq w w'
def MadeR (gq mo:Nat)(w:World)(e:Ending)(w':World):Prop:= ∃(g:Nat) (A:Option Addr) (n c B:Nat) (p:Pl) (m:Mk) (rs:List (List PR×Int×Int×(Nat→Int))) (xs:List Value) (b0:Int),e= .returned (.tuple #[.pointer (some ⟨g,0,none⟩),.slice A n c])∧w.heap.size≤B∧At w' B g p m∧GoodN m n mo∧KeptB w.heap.size gq w w'∧Rws w' B A n c xs∧Reach m rs∧rs.length=n∧m.h.N 9=b0+(n:Int)∧RowsR w' gq (p.foot g) A xs b0 rs
theorem rec_range {w:World}{g:Nat}{T:TypeId}{s r m:Int}{K:Nat→Int}{F:Value}(h:Blk w g (recL s r m K F) T):w.rangeAt g 3 (idJ K):=fun j v hj=>by
 have a:j<16:=(List.getElem?_eq_some_iff.1 hj).1
 refine h.cell (i:=3+j) ?_
 rw[aC7 K j a]at hj
 rcases j with _|_|_|_|_|_|_|_|_|_|_|_|_|_|_|_|j
 all_goals first|exact hj|omega
theorem aDa {m:Mk}(g:Good m){L:List PR}(v:AllP L)(real mono:Int)(K:Nat→Int)(k:0≤real∧real≤18446744073709551615)(l:0≤mono∧mono≤18446744073709551615)(s:IdOk K):Good (Mk.after m L real mono K):=by
 unfold Mk.after
 by_cases a:Mk.acode m L real mono K=0
 ·rw[if_pos a]
  unfold Mk.acode at a
  by_cases c:listE L=0
  ·rw[if_neg (by simpa using c)]at a
   by_cases d:m.h.N 9=18446744073709551615
   ·rw[if_pos d]at a;cases a
   ·rw[if_neg d]at a
    by_cases t:m.C.most<(Mk.grown m (listL L) real mono K).b.length
    ·rw[if_pos t]at a;cases a
    ·obtain⟨n16,e⟩:=aFA c
     obtain⟨j,r,o,n,w⟩:=aGp g.img.inv g.img.hg (listL L) (fun q hq=>by
      obtain⟨p,u⟩:=e q hq
      have i:=v q p
      have f:=aBi u
      exact⟨i.1,i.2.1,f.1,f.2⟩) n16 g.img.len real mono K k l s d
     exact⟨⟨j,r,by rw[n];have:=g.most;omega⟩,by rw[o];exact g.most⟩
  ·rw[if_pos c]at a;exact absurd a c
 ·rw[if_neg a];exact g
theorem aDb {m:Mk}(h:Inv m)(g:HG m)(L:List PR)(B: ∀q∈L,AllB q.1∧AllB q.2∧q.1.length≤64∧q.2.length≤256)(p:L.length≤16)(hb:m.b.length≤32768)(real mono:Int)(K:Nat→Int)
 (hr:0≤real∧real≤18446744073709551615)(hm:0≤mono∧mono≤18446744073709551615)(hK:IdOk K)(h9:m.h.N 9≠18446744073709551615):
 (Mk.entered m L real mono K).h.N 8=m.h.N 8+1:=by
 have n9:=g.nb 9 (by omega)
 obtain⟨k,i2,A,i4,t⟩:=aAs h L B L.length (yR _)
 have u:=aC4 g h L B p (by omega) L.length (yR _)
 rw[List.take_length]at k i2 A i4 t u
 unfold Mk.entered Mk.grown
 dsimp only
 generalize E:Mk.dataAll m L=s at*
 obtain⟨a,who⟩:=s
 dsimp only at*
 obtain⟨d,l,i,C⟩:=k.mn
 have r:(Mk.eobj a who (L.map fun q=>pay q.1 q.2) (m.h.N 9+1) real mono K).length%8=0∧0<(Mk.eobj a who (L.map fun q=>pay q.1 q.2) (m.h.N 9+1) real mono K).length∧(Mk.eobj a who (L.map fun q=>pay q.1 q.2) (m.h.N 9+1) real mono K).length≤400∧64≤(Mk.eobj a who (L.map fun q=>pay q.1 q.2) (m.h.N 9+1) real mono K).length:=by
  have e:=aDG a who (L.map fun q=>pay q.1 q.2) (m.h.N 9+1) real mono K
  omega
 generalize Mk.eobj a who (L.map fun q=>pay q.1 q.2) (m.h.N 9+1) real mono K=c at*
 obtain⟨V,e2,e3,e4⟩:=r
 have w:=aA7 k c V e2
 have Z:=aBR u c (by omega)
 have M:=aAM a c
 have f:Chain (a.object c).b.length (a.object c).main d:=i.mono (by omega)
 have o:(a.object c).h.N 8=(d:Int):=l
 have v:=k.len
 have I:(m.h.N 8).toNat=d:=by rw[←t.n8,l];rfl
 rw[I]
 obtain⟨X,g2,g3,z,g5,g6,G⟩:=aBx w a.b.length d o f (by omega) (by omega)
 have F:=aGo Z w a.b.length d f (by omega) (by omega)
 generalize Mk.linked (a.object c) a.b.length d=n at*
 have j:InvM a.b.length 0 n:=⟨X,fun k' hk'=>by rw[z]at hk';exact(k.dat k' hk').2.2.2.2,by omega⟩
 have x: ∀y∈who,y<n.datas.length:=fun y hy=>by rw[z];exact A y hy
 obtain⟨k1,J,H,k4,Y,R,D⟩:=aAL j a.b.length who x (by omega) who.length (yR _)
 have G4:=aC5 F j a.b.length who x (by omega) (by omega) who.length (yR _)
 rw[List.take_length]at k1 J H k4 Y R D G4
 show(Mk.told (Mk.markAll a.b.length n who) _ _ _ _ _ _).h.N 8=_
 have hk:(Mk.markAll a.b.length n who).h.N 8=m.h.N 8:=by rw[D,G];exact t.n8
 rw[←hk]
 unfold Mk.told setN
 dsimp only
 repeat' split
 all_goals (simp_all (config:={decide:=true}))
theorem aHD {m:Mk}{n a:Nat}(g:GoodN m n a)(i:n<a){L:List PR}(d:AllP L)(real mono:Int)(K:Nat→Int)(c:0≤real∧real≤18446744073709551615)(e:0≤mono∧mono≤18446744073709551615)(j:IdOk K):(Mk.acode m L real mono K=0→GoodN (Mk.after m L real mono K) (n+1) a)∧(Mk.acode m L real mono K≠0→GoodN (Mk.after m L real mono K) n a):=by
 refine⟨fun h0=>?_,fun h0=>?_⟩
 ·have p:=aDa g.good d real mono K c e j
  obtain⟨rs,f,l⟩:=g.rch
  refine⟨p.img,p.most,?_,i,_,Reach.step f L d real mono K c e j h0,by rw[List.length_append,l];rfl⟩
  unfold Mk.after
  rw[if_pos h0]
  unfold Mk.acode at h0
  by_cases b:listE L=0
  ·rw[if_neg (by simpa using b)]at h0
   by_cases o:m.h.N 9=18446744073709551615
   ·rw[if_pos o]at h0;cases h0
   ·obtain⟨n16,k⟩:=aFA b
    rw[aDb g.img.inv g.img.hg (listL L) (fun q hq=>by
       obtain⟨t,u⟩:=k q hq
       have s:=d q t
       have r:=aBi u
       exact⟨s.1,s.2.1,r.1,r.2⟩) n16 g.img.len real mono K c e j o,g.cnt]
    rfl
  ·rw[if_pos b]at h0;exact absurd h0 b
 ·unfold Mk.after
  rw[if_neg h0]
  exact g
def slen:Value→Nat
 | .slice _ n _=>n
 |_=>0
theorem aIF (s r m:Int)(K:Nat→Int)(A:Option Addr)(n c:Nat): ∀u∈recL s r m K (.slice A n c),u.oneCell'=true:=fun u hu=>by
 simp only[recL,List.mem_cons,List.not_mem_nil,or_false]at hu
 rcases hu with h|h|h|h|h|h|h|h|h|h|h|h|h|h|h|h|h|h|h|h<;>(rw[h];rfl)
attribute [local irreducible] Mk.cells HD.cells Cf.cells wpList Code.wp
theorem aEX (o:Nat)(a:Option Addr)(len H:Nat)(f:Nat→Int)(k:Nat)(mo:Nat)(w:World)(h:SeqIn w o a len H f k)(bX:mo≤1000):
 Calls Tryz.prog 25 #[.pointer (some ⟨o,0,none⟩),.int .i64 (mo:Int)] w (MadeR o mo w):=by
 have bV:=h.1.lt
 have Q0:=yH h
 have bO:=yH (show 0<len→ ∀b off,a=some ⟨b,off,none⟩→b<w.heap.size from fun R b off e=>by obtain⟨b',bR,e',M,_⟩:=h.2.1 0 R;rw[e]at e';injection e' with e';injection e' with e';omega)
 have HC:=yH (aJy o a len H f k w h)
 have HS:=yH fun(b:Int) (M:1≤b) (h2:b≤1000000) (j:Nat) (W:World) (hW:SeqIn W o a len H f j)=>aHA o a len H f j b W M h2 hW
 have bu:=yH fun(C:Cf) (x:Int) (W:World) (hds:0<C.ds∧C.ds≤64) (hfs:0<C.fs∧C.fs≤64)=>aDr C x W hds hfs
 clear h
 go_enter Tryz.func25,Tryz.ntmps25
 go_upto_region 2 with(first
  |(go_at_call 62;(with_reducible refine HC.out.mono ?_);rintro e w1 ⟨C,rfl,aK,bv,bo⟩;have aa:=yH aK;have Q1:=yH bv;have K1:=yH bo;clear aK bv bo)
  |((with_reducible apply aAa (.tmp 6) (.tmp 13));refine wpList_store_row rfl 79 (.tmp 6) (.tmp 13) rfl w1.heap.size (Cf.cells C).toArray rfl rfl 79 zC (heap_alloc_new w1 _) (aHB _) (aIB _) (Cf.one _) ?_)
  |fail)
 have R2:=yH (show Blk ((w1.alloc (.cells zC 79)).setRow w1.heap.size (Cf.cells C).toArray) w1.heap.size (Cf.cells C) 79 from setRow_heap _ _ _ _ _ (0,0) (heap_alloc_new w1 _))
 have B2:=yH (show Below w1.heap.size w1 ((w1.alloc (.cells zC 79)).setRow w1.heap.size (Cf.cells C).toArray)from below_setRow ((Below.refl _ _).alloc (yR _) _) (yR _) _)
 generalize (w1.alloc (.cells zC 79)).setRow w1.heap.size (Cf.cells C).toArray=w2 at*
 have Q2:=yH (Q1.out.below B2.out)
 have K2:=yH (K1.out.trans (KeptB.of_below (B2.out.mono K1.out.size)))
 have bm:=R2.out.lt
 have aU:o<w1.heap.size:=Q1.out.1.lt
 generalize w1.heap.size=s at*
 clear Q0 HC Q1 K1 B2
 have bq:=yH (Q2.out.below (Below.refl _ _).drew)
 have aQ:=yH (K2.out.drew)
 have aW:=yH (R2.out.drew)
 have ax:s<w2.drew.heap.size:=bm
 have S2:=yH (show w2.drew.rangeAt s 0 (Cf.cells C)from fun j v hj=>by rw[Nat.zero_add];exact R2.out.cell hj)
 refine wp_region_noPanic ?_
 refine wp_region_held_drew (S:=fun W:World=>W.rangeAt s 0 (Cf.cells C)) (by kernel_rfl) (by exact S2.out) (fun hHeld=>?_)
 refine tk (i:=0) (oi:=⟨some 14,_,_,_,_,_⟩) rfl (yieldsIf_load_mid (by rfl) _ _ rfl _ _ rfl _ _ (fun _ h=>h) Tryz.underlying79 rfl (Cf.info C)) ?_
 try simp only[Act.put,sA,sZ,sS]
 refine tq 1 15 rfl (fun W hSw=>by go_simp;try (with_reducible rfl)) ?_
 try simp only[Act.put,sA,sZ,sS]
 refine rd 2 rfl (fun K hK=>?_)
 go_simp
 (refine(HS.out 6 (by decide) (by decide) _ _ bq.out).mono ?_);rintro e w3 ⟨r6,rfl,bJ,bs,aN⟩;have a4:IntKind.u64.wrap (r6:Int)=(r6:Int):=by {rw[IntKind.wrap_u64];omega};have Q3:=yH bs;have K3:=yH (aQ.out.trans (aN.mono aQ.out.size));have R3:=yH (Seq8.Blk.keptB aW.out aN ax (Nat.ne_of_gt aU));have S3:=yH (show w3.rangeAt s 0 (Cf.cells C)from fun j v hj=>by {rw[Nat.zero_add];exact R3.out.cell hj});clear bs aN
 try go_wp2_with fail
 refine hK.out _ _ (by exact S3.out) (fun hHeld=>?_)
 clear hK K
 try simp only[Act.put,sA,sZ,sS]
 refine tq 3 17 rfl (fun W hSw=>by go_simp;try (with_reducible rfl)) ?_
 try simp only[Act.put,sA,sZ,sS]
 refine rd 4 rfl (fun K hK=>?_)
 go_simp
 (refine(bu.out C _ _ aa.out.ds aa.out.fs).mono ?_);rintro e w4 ⟨g,rfl,⟨p4,aE⟩,aO⟩;have B4:=yH aO;have S4:=yH (show w4.rangeAt s 0 (Cf.cells C)from fun j v hj=>by {rw[Nat.zero_add];exact(R3.out.below aO R3.out.lt).cell hj});clear aO
 try go_wp2_with fail
 refine hK.out _ _ (by exact S4.out) (fun hHeld=>?_)
 clear hK K
 try simp only[Act.put,sA,sZ,sS]
 refine tq 5 7 rfl (fun W hSw=>by go_simp;try (with_reducible rfl)) ?_
 try simp only[Act.put,sA,sZ,sS]
 refine wpAnyH_done (by kernel_rfl) ?_ _
 refine NoPanic.normal ?_
 have J:=yH aE
 have Q4:=yH (Q3.out.below B4.out)
 have K4:=yH (K3.out.trans (KeptB.of_below (B4.out.mono K3.out.size)))
 have Y:w.heap.size≤w3.heap.size:=K3.out.size
 have HG:=yH (show GoodN (Mk.new C (r6:Int)) 0 mo from⟨(aDI aa.out _ (by omega)).img,(aDI aa.out _ (by omega)).most,rfl,Nat.zero_le _,[],Reach.mk aa.out _ (by omega),rfl⟩)
 generalize Mk.new C (r6:Int)=m0 at*
 generalize w3.heap.size=B at*
 clear aE Q2 K2 R2 bm bq S2 aQ aW ax bu HS aa a4 bJ aU
 go_upto_region 4 with fail
 have aV:=yH (show LM w4 w.heap.size B g o a len H f none 0 0 w mo from by
  obtain⟨bK,bE,a0⟩:=HG.out.rch
  exact⟨⟨p4,m0,bK,[],m0.h.N 9,J.out,HG.out,(fun k h=>by cases h),⟨OwnE.nil _ _ (by have:=(J.out.lt g (.inl rfl));omega),fun _=>rfl,fun h=>absurd h (by decide)⟩,bE,a0,(Int.add_zero _).symm,⟨by rw[a0];rfl,fun i hi=>absurd hi (by omega)⟩⟩,⟨_,Q4.out⟩,K4.out⟩)
 clear J HG Q4 K4
 go_loopw [8] (fun a8 wr=> ∃(A:Option Addr) (n c:Nat),a8= .slice A n c∧n≤mo∧Hid (LM wr w.heap.size B g o a len H f A n c w mo)) (fun a8 _=>mo-slen a8)
 case atStart=>exact⟨none,0,0,rfl,Nat.zero_le _,aV⟩
 case round=>
  obtain⟨A,n,c,rfl,hn,hL⟩:=hrel
  obtain⟨⟨p,m,rs,xs,b0,bk,bz,aF,av,az,bd,bj,aC⟩,⟨k,bl⟩,aZ⟩:=hL.out
  have X:=yH az
  have al:=yH bd
  have ah:=yH bj
  have af:=yH aC
  have J:=yH bk
  have I:=yH bz
  have aI:=yH aF
  have a5:=yH bl
  have ab:=yH aZ
  have l:=yH av
  clear hL aV bk bz aF bl aZ av az bd bj aC
  have ag:=yH (aMM o a len H f k wr a5.out)
  by_cases bM:n<mo
  ·have d1:decide ((n:Int)<(mo:Int))=true:=by simp;omega
   by_cases hk:k<len
   ·have d2:decide (k<len)=true:=by simpa using hk
    rw[d2]at ag
    go_upto_region 5 with(first
     |(go_at_call 64;(refine ag.out.mono ?_);rintro e w5 ⟨rfl,aj⟩;have Z:=yH aj;clear aj)
     |fail)
    have aM:=yH (At.below J.out Z.out)
    have Q5:=yH (a5.out.below Z.out)
    have a7:=yH (aDE B g p.bb p.cb p.S m w5 aM.out.st)
    have aP:=yH fun(x:Int)=>aJA o a len H f k x w5 Q5.out
    unfold Recorded at aP
    obtain⟨V,bg⟩: ∃y,IntKind.u64.wrap (m.h.N 9+1)=y:=⟨_,rfl⟩
    clear d1 d2 ag
    go_upto_region 6 with(first
     |(go_at_call 66;(refine a7.out.mono ?_);rintro e w6 ⟨rfl,rfl⟩)
     |(go_at_call 65;(refine(aP.out _).mono ?_);rintro e w7 ⟨L,z,u,cr,k7,r,d,x,rfl,aT,bA,bp,bW,bS,bL,a3,aX,aD⟩;have au:=yH aT;have aG:=yH bp;have bc:=yH a3;have am:=yH aX;have a6:=yH aD;clear aT bp a3 aX aD)
     |((with_reducible apply aAa (.tmp 9) (.tmp 31));refine wpList_store_row rfl 70 (.tmp 9) (.tmp 31) rfl w7.heap.size (recL V (r:Int) (d:Int) (mkId x) (.slice z u cr)).toArray rfl rfl 70 zR (heap_alloc_new w7 _) (aAm _ _ _ _ _) rfl (by simp[Value.oneCell']) ?_)
     |fail)
    have R8:=yH (show Blk ((w7.alloc (.cells zR 70)).setRow w7.heap.size (recL V (r:Int) (d:Int) (mkId x) (.slice z u cr)).toArray) w7.heap.size (recL V (r:Int) (d:Int) (mkId x) (.slice z u cr)) 70 from setRow_heap _ _ _ _ _ (0,0) (heap_alloc_new w7 _))
    have B8:=yH (show Below w7.heap.size w7 ((w7.alloc (.cells zR 70)).setRow w7.heap.size (recL V (r:Int) (d:Int) (mkId x) (.slice z u cr)).toArray)from below_setRow ((Below.refl _ _).alloc (yR _) _) (yR _) _)
    generalize (w7.alloc (.cells zR 70)).setRow w7.heap.size (recL V (r:Int) (d:Int) (mkId x) (.slice z u cr)).toArray=w8 at*
    have bC:=yH bg
    clear a7 aP bg
    have a2:wr.heap.size≤w7.heap.size:=Nat.le_trans Z.out.size am.out.size
    have ao:w.heap.size≤wr.heap.size:=ab.out.size
    have bf:=yH (At.offB aM.out (aIE am.out) (fun k' h'=>by have h':k'=o:=h';omega))
    have bH:=yH (At.below bf.out B8.out)
    have t:=yH (aG.out.below B8.out)
    have bI:=yH (bc.out.below B8.out)
    have bB:=yH (show KeptB w.heap.size o w w8 from((ab.out.trans (KeptB.of_below (Z.out.mono ao))).trans (am.out.mono (Nat.le_trans ao Z.out.size))).trans (KeptB.of_below (B8.out.mono (Nat.le_trans ao a2))))
    have ad:=yH (show KeptF (One o) wr w8 from((KeptF.of_below (F:=One o) Z.out).trans (aIE am.out) (fun _ _ h=>h)).trans (KeptF.of_below (F:=One o) B8.out) (fun _ _ h=>h))
    have bG:w7.heap.size<w8.heap.size:=R8.out.lt
    have aY:=yH (rec_range R8.out)
    have bD:w8.cell? ⟨w7.heap.size,19,none⟩=some (.slice z u cr):=R8.out.cell rfl
    have c1:w8.cell? ⟨w7.heap.size,1,none⟩=some (.int .u64 (r:Int)):=R8.out.cell rfl
    have c2:w8.cell? ⟨w7.heap.size,2,none⟩=some (.int .u64 (d:Int)):=R8.out.cell rfl
    have ap:=yH (aEW (p:=p) (m:=m) z L u cr (r:Int) (d:Int) (mkId x) w8 bH.out I.out.img.inv t.out au.out (by omega) I.out.img.len (by rw[I.out.most];decide) (aCX (by omega)) (by omega) (by omega) (I.out.img.hg.nb 9 (by omega)))
    unfold Appended at ap
    have ay:=yH (aHD I.out bM t.out.1 (r:Int) (d:Int) (mkId x) (by omega) (by omega) (aCX (by omega)))
    have D:=yH (show(Mk.acode m L (r:Int) (d:Int) (mkId x)=0→Reach (Mk.after m L (r:Int) (d:Int) (mkId x)) (rs++ [(L,(r:Int),(d:Int),mkId x)])∧(Mk.after m L (r:Int) (d:Int) (mkId x)).h.N 9=m.h.N 9+1∧V=m.h.N 9+1)∧(Mk.acode m L (r:Int) (d:Int) (mkId x)≠0→Mk.after m L (r:Int) (d:Int) (mkId x)=m)from
     ⟨fun R=>⟨Reach.step X.out L t.out.1 (r:Int) (d:Int) (mkId x) (by omega) (by omega) (aCX (by omega)) R,(aFB R).1,by
       have h9:=(aFB R).2
       have bU:=I.out.img.hg.nb 9 (by omega)
       have hw:=bC.out
       rw[IntKind.wrap_u64]at hw
       omega⟩,fun R=>if_neg R⟩)
    have ba:=yH au.out
    have aA:=yH (show ∀b off,z=some ⟨b,off,none⟩→0<u→wr.heap.size≤b∧b<w8.heap.size from fun b off e hn=>by
     have h5:=a6.out b off e hn
     have h6:=Z.out.size
     obtain⟨b2,bP,e2,h7,_⟩:=t.out.2 0 (by rw[au.out];exact hn)
     rw[e]at e2
     injection e2 with e2
     injection e2 with e2
     subst e2
     exact⟨by omega,h7⟩)
    have aS:=yH t.out
    generalize Mk.after m L (r:Int) (d:Int) (mkId x)=m9 at*
    generalize Mk.acode m L (r:Int) (d:Int) (mkId x)=cd at*
    clear aM Q5 bc am bf aG au t ab bL Z
    generalize a1:w7.heap.size=s7 at*
    clear a1 B8
    go_upto_region 7 with(first
     |((with_reducible apply aAb 41);refine wpList_load_mid rfl 37 (.tmp 40) rfl s7 3 rfl (idJ (mkId x)) _ aY.out Tryz.underlying37 rfl (aBl _) ?_)
     |(go_at_call 33;(refine ap.out.mono ?_);rintro e w9 ⟨rfl,p9,a9,bw⟩;have aR:=yH a9;have q:=yH bw;clear a9 bw)
     |fail)
    clear bD c1 c2 aY ap
    have E:=At.lt J.out
    have bn:=yH (show Below B w8 w9 from q.out.base (by have:=(E g (.inl rfl));omega) (fun k' h'=>(E k' h').1))
    have bx:=yH (show KeptB w.heap.size o w w9 from bB.out.trans (KeptB.of_below (bn.out.mono Y)))
    have bt:=yH (show OwnE 70 20 w9 B A n c xs from Mf.OwnE.keptF l.out.own (((ad.out.mono (G:=fun k'=>k'=o∨p.foot g k') (fun i h=> .inl h)).trans q.out.kept (fun _ _ h=> .inr h))) (fun k' hk' h=>by
     rcases h with h|h
     ·have:=(OwnE.ltB l.out.own k' hk').1;omega
     ·exact aI.out k' hk' h))
    have ak:=yH (show ∀k',ownB A=some k'→ ¬p9.foot g k' from fun k' hk' h=>by
     rcases q.out.foot k' h with M|M
     ·exact aI.out k' hk' M
     ·have:=(OwnE.ltB l.out.own k' hk').2;omega)
    have bQ:wr.heap.size≤w8.heap.size:=ad.out.size
    have ac:=yH (show RowsR w9 o (p9.foot g) A xs b0 rs from af.out.step ((ad.out.mono (G:=fun k'=>k'=o∨p.foot g k') (fun i h=> .inl h)).trans q.out.kept (fun _ _ h=> .inr h)) (fun b _ h=>h.elim .inl (fun h=> .inr (.inl h))) (fun b hb hf=>(q.out.foot b hf).elim id (fun h=>by omega)) (fun b _ h=>h))
    have bi:=yH (show Prs w9 z L from by
     rcases Nat.eq_zero_or_pos u with R|R
     ·rw[List.eq_nil_of_length_eq_zero (show L.length=0 by have:=ba.out;omega)]
      exact Prs.nil _ _
     ·exact aS.out.keptB q.out.kept.size fun b off e hb=>q.out.kept.block b hb fun hf=>by
       have M:=(E b hf).2
       have h2:=(aA.out b off e R).1
       omega)
    have br:=yH (show ∀b off,z=some ⟨b,off,none⟩→0<u→b<w9.heap.size∧b≠o∧ ¬p9.foot g b∧ownB A≠some b from fun b off e hn=>by
     obtain⟨M,h2⟩:=aA.out b off e hn
     have h3:=q.out.kept.size
     refine⟨by omega,by omega,fun hf=>?_,fun ha=>?_⟩
     ·rcases q.out.foot b hf with h4|h4
      ·have:=(E b h4).2;omega
      ·omega
     ·have:=(OwnE.ltB l.out.own b ha).2;omega)
    by_cases hz:cd=0
    ·have d3:(cd !=0)=false:=by simp[hz]
     have bT:(cd==0)=true:=by simp[hz]
     have bF:=yH (show Blk w9 s7 (recL V (r:Int) (d:Int) (mkId x) (.slice z u cr)) 70 from(q.out.kept.block s7 bG (fun hf=>by have:=(E s7 hf).2;omega)).trans R8.out)
     have aJ:=yH (show Rws (w9.alloc (.cells (recL V (r:Int) (d:Int) (mkId x) (.slice z u cr)).toArray 70)) B A n c xs from⟨OwnE.alloc bt.out _,l.out.nil,l.out.u8⟩)
     have ae:=yH (At.below aR.out ((Below.refl w9.heap.size w9).alloc (yR _) (.cells (recL V (r:Int) (d:Int) (mkId x) (.slice z u cr)).toArray 70)))
     have bY:xs.length=n*20:=OwnE.len l.out.own
     have bN:=yH (aIF V (r:Int) (d:Int) (mkId x) z u cr)
     go_wp2_with(first
      |((with_reducible apply aAb 48);refine wpList_load_row rfl 70 (.tmp 9) rfl s7 rfl 70 (recL V (r:Int) (d:Int) (mkId x) (.slice z u cr)).toArray (0,0) _ bF.out Tryz.underlying70 rfl (aAm _ _ _ _ _) ?_)
      |(at_builtin;refine wpList_append_new aOf rfl (.tmp 47) (.tmp 49) rfl B A n c xs rfl aJ.out.own ⟨w9.heap.size,0,none⟩ 1 1 (recL V (r:Int) (d:Int) (mkId x) (.slice z u cr)) rfl rfl (Blk.news (Blk.new w9 _ _)) bN.out (by omega) (by omega) (by unfold maxLen;omega) ?_;intro A' c' w10 aB aH an;have aL:=yH aB;have ai:=yH aH;have aq:=yH an;clear aB aH an)
      |fail)
     have bh:=yH (At.rows ae.out aJ.out ak.out aL.out ai.out aq.out)
     have aw:=yH (show Below B w9 w10 from((Below.refl B w9).alloc (by have:=(At.lt aR.out g (.inl rfl));omega) (.cells (recL V (r:Int) (d:Int) (mkId x) (.slice z u cr)).toArray 70)).trans (below_grown ai.out (by have:=(At.lt ae.out g (.inl rfl));omega) (fun k' hk'=>(OwnE.ltB l.out.own k' hk').1)))
     have ar:=yH (show RowsR w10 o (p9.foot g) A' (xs++recL V (r:Int) (d:Int) (mkId x) (.slice z u cr)) b0 (rs++ [(L,(r:Int),(d:Int),mkId x)])from
      (ac.out.snoc (L,(r:Int),(d:Int),mkId x) (cr:=cr) (by have M:=(D.out.1 hz).2.2;have h2:=ah.out;have h3:=al.out;omega) ba.out bA bi.out br.out).step (((KeptF.refl (fun k=>ownB A=some k) w9).alloc _).grown ai.out (fun k h _=>h.symm▸rfl)) (fun b _ h=> .inr (.inr h)) (fun b _ h=>h) (fun b hb h=>by
        rcases aq.out with M|⟨M,_⟩
        ·rw[←M];exact h
        ·rw[M]at h
         injection h with h
         simp only[World.alloc,Array.size_push]at h
         omega))
     go_roundw
     case rel=>
      refine⟨A',n+1,c',rfl,by omega,yH ⟨⟨p9,m9,rs++ [(L,(r:Int),(d:Int),mkId x)],_,b0,bh.out,ay.out.1 hz,fun k' hk' hf=>?_,⟨aL.out,fun h=>by omega,fun _=>?_⟩,(D.out.1 hz).1,by rw[List.length_append,al.out];rfl,by have M:=(D.out.1 hz).2.1;have h2:=ah.out;omega,ar.out⟩,⟨k7,aHC bI.out (bn.out.trans aw.out) (by omega) (fun R b off e=>yL (bO.out R b off e) Y)⟩,bx.out.trans (KeptB.of_below (aw.out.mono Y))⟩⟩
      ·rcases aq.out with M|⟨M,_⟩
       ·exact ak.out k' (M▸hk') hf
       ·rw[M]at hk'
        have h3:=(At.lt ae.out k' hf).2
        rw[←Option.some.inj hk']at h3
        exact Nat.lt_irrefl _ h3
      ·rcases Nat.eq_zero_or_pos n with R|R
       ·rw[List.eq_nil_of_length_eq_zero (show xs.length=0 by omega)]
        exact⟨_,rfl⟩
       ·obtain⟨v,hv⟩:=l.out.u8 R
        refine⟨v,?_⟩
        rw[List.getElem?_append_left (by omega)]
        exact hv
     case measure=>simp[slen];omega
    ·have d3:(cd !=0)=true:=by simpa using hz
     go_wp2
     go_ret2
     exact⟨g,A,n,c,B,p9,m9,rs,xs,b0,rfl,Y,aR.out,ay.out.2 hz,bx.out,⟨bt.out,l.out.nil,l.out.u8⟩,by rw[D.out.2 hz];exact X.out,al.out,by rw[D.out.2 hz];exact ah.out,ac.out⟩
   ·have d2:decide (k<len)=false:=by simpa using hk
    rw[d2]at ag
    go_wp2_with(first
     |(go_at_call 64;(refine ag.out.mono ?_);rintro e w5 ⟨rfl,aj⟩;have Z:=yH aj;clear aj)
     |fail)
    go_ret2
    exact⟨g,A,n,c,B,p,m,rs,xs,b0,rfl,Y,At.below J.out Z.out,I.out,ab.out.trans (KeptB.of_below (Z.out.mono ab.out.size)),⟨l.out.own.kept Z.out (yR _),l.out.nil,l.out.u8⟩,X.out,al.out,ah.out,af.out.step (KeptF.of_below (F:=fun _=>False) Z.out) (fun _ _ h=>h.elim) (fun _ _ h=>h) (fun _ _ h=>h)⟩
  ·have d1:decide ((n:Int)<(mo:Int))=false:=by simp;omega
   go_wp2_with fail
   go_ret2
   exact⟨g,A,n,c,B,p,m,rs,xs,b0,rfl,Y,J.out,I.out,ab.out,l.out,X.out,al.out,ah.out,af.out⟩
theorem aKX (d:Nat)(a:Option Addr)(len b:Nat)(f:Nat→Int)(k:Nat)(i:Nat)(w:World)(h:SeqIn w d a len b f k)(j:i≤1000):
 Calls Tryz.prog 25 #[.pointer (some ⟨d,0,none⟩),.int .i64 (i:Int)] w (MadeJ d i w):=by
 refine(aEX d a len b f k i w h j).mono ?_
 rintro e w' ⟨g,A,n,c,B,p,m,rs,xs,b0,r,l,s,o,q,_⟩
 exact⟨g,A,n,c,B,p,m,r,l,s,o,q⟩
def ImagedN (mo:Nat)(w:World)(e:Ending)(w':World):Prop:= ∃(A:Option Addr) (c:Nat) (m:Mk) (n:Nat),e= .returned (.slice A m.b.length c)∧GoodN m n mo∧Own8.Own w' w.heap.size A m.b.length c (imgB m)∧Below w.heap.size w w'
theorem aOY (a:Option Addr)(len d:Nat)(f:Nat→Int)(q:Nat)(w:World)(v:InInts .i64 w a len f)(J:len≤9223372036854775807)(t:q≤1000):
 Calls Tryz.prog 11 #[.slice a len d,.int .i64 (q:Int)] w (ImagedN q w):=by
 have z:=yH (show SeqIn (w.alloc (.cells #[.slice a len d,.int .i64 0] 62)) w.heap.size a len d f 0 from⟨Blk.new w [.slice a len d,.int .i64 0] _,v.below ((Below.refl _ _).alloc (yR _) _),fun h0 b off e=>by obtain⟨N,C,k,V,_⟩:=v 0 h0;rw[e]at k;injection k with k;injection k with k;omega,Nat.zero_le _,J⟩)
 have D:=yH ((Below.refl w.heap.size w).alloc (yR _) (.cells #[.slice a len d,.int .i64 0] 62))
 have x:=yH (aKX w.heap.size a len d f 0 q _ z.out t)
 unfold MadeJ at x
 clear v
 go_enter Tryz.func11,Tryz.ntmps11
 go_upto_region 2 with(first
  |(go_at_call 25;(refine x.out.mono ?_);rintro e w2 ⟨g,A,n,c,B,p,m,rfl,M,h,i,E⟩;have G:=yH h;have r:=yH i;have I:=yH E;clear h i E)
  |fail)
 obtain⟨X,R,L⟩:=r.out.img.lens
 have o:=yH (aD5 B g p.bb p.cb p.S m 1 w2 G.out.st (by omega) (aHz r.out.img) (by have:=r.out.img.inv.dep;omega))
 unfold Owned at o
 have y:=yH (D.out.trans (KeptB.below (I.out.mono D.out.size) (yR _)))
 clear z x
 go_wp2_with(first
  |(go_at_call 27;(refine o.out.mono ?_);rintro e w3 ⟨F,H,rfl,j,l⟩;have u:=yH j;have s:=yH l;clear j l)
  |fail)
 go_ret
 exact⟨F,H,m,n,rfl,r.out,Own.base u.out y.out.size,y.out.trans (s.out.mono y.out.size)⟩
end Nu
namespace Nv
open Go1 (hcode rhd aBK HTold aA5 magicB)
end Nv
end Go.Proofs.YtlelnfokffflnaaGreat
