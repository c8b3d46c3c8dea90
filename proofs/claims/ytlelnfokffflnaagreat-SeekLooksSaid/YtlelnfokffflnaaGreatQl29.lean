/-
  Texts beneath the proof.
-/
import Derived.Test.YtlelnfokffflnaaGreatQl27
import Derived.Test.YtlelnfokffflnaaGreatQl28
set_option linter.unusedVariables false
set_option linter.unusedSimpArgs false
set_option maxRecDepth 100000
set_option maxHeartbeats 8000000
open Go.ChangeShapes Go.WideShapes Go.ChangeAt Go.RowKit
namespace Go.Proofs.YtlelnfokffflnaaGreat
namespace Nu
open Bytes8 Blk8 Own8 OwnA OwnE Rows2 Ob Od Ga Ma Kf Mb Mc Md Mf Mg Mh Mi Fa Fb Fc Dc Gb Na Nb Nc Nd Nf Nh Nk Nl Nm No Pr8 Pl8 Ni Np Nq Nr Ns Nt Seq8
theorem aOf:Elt 70 57 20 64 (.agg zR):=⟨Tryz.underlying57,by kernel_rfl,rfl,by decide⟩
structure Good (m:Mk):Prop where
 img:Img m
 most:m.C.most=32768
inductive Reach:Mk→List (List PR×Int×Int×(Nat→Int))→Prop
 |mk {C:Cf} (h:CfOk C) (after:Int) (ha:0≤after∧after≤18446744073709551615):Reach (Mk.new C after) []
 |step {m:Mk} {rs:List (List PR×Int×Int×(Nat→Int))} (h:Reach m rs) (L:List PR) (hP:AllP L) (real mono:Int) (K:Nat→Int) (hr:0≤real∧real≤18446744073709551615) (hm:0≤mono∧mono≤18446744073709551615) (hK:IdOk K) (h0:Mk.acode m L real mono K=0):Reach (Mk.after m L real mono K) (rs++ [(L,real,mono,K)])
structure GoodN (m:Mk)(n mo:Nat):Prop where
 img:Img m
 most:m.C.most=32768
 cnt:m.h.N 8=(n:Int)
 le:n≤mo
 rch: ∃rs,Reach m rs∧rs.length=n
theorem GoodN.good {m:Mk}{n b:Nat}(g:GoodN m n b):Good m:=⟨g.img,g.most⟩
theorem aDI {C:Cf}(h:CfOk C)(c:Int)(m:0≤c∧c≤18446744073709551615):Good (Mk.new C c):=by
 have g:=h.ds
 have f:=h.fs
 have l:(Mk.new C c).b.length=304+16*(C.ds+C.fs):=by
  show(z272++tabB 4 C.ds++tabB 5 C.fs).length=_
  rw[List.length_append,List.length_append,aAu,aAu]
  unfold z272
  rw[List.length_replicate]
  omega
 have d: ∀i,(Mk.new C c).h.N i=if i=9 then c else if i=7 then 2 else if i=6 then 288+16*(C.ds:Int)else if i=5 then 16*(C.fs:Int)else if i=4 then 304+16*(C.ds:Int)else if i=3 then 16*(C.ds:Int)else if i=2 then 288 else if i=0 then 272 else 0:=fun i=>rfl
 have j:Inv (Mk.new C c):=
  {F:=h.F,ds:=g,fs:=f
   n2:=rfl
   n4:=by
    show _=((Mk.tf (Mk.new C c):Nat):Int)
    rw[d 4]
    show 304+16*(C.ds:Int)=((304+16*C.ds:Nat):Int)
    omega
   len:=by show 304+16*(C.ds+C.fs)≤_;omega
   l8:=by omega
   dat:=fun k hk=>by cases hk
   fld:=fun k hk=>by cases hk
   mn:=⟨0,rfl,Chain.nil _,Nat.zero_le _⟩
   n7:=by rw[d 7];show 0≤(2:Int)∧(2:Int)≤_;omega
   n15:=by rw[d 15];show 0≤(0:Int)∧(0:Int)≤_;omega
   n16:=by rw[d 16];show 0≤(0:Int)∧(0:Int)≤_;omega
   n18:=by rw[d 18];show 0≤(0:Int)∧(0:Int)≤_;omega
   n19:=by rw[d 19];show 0≤(0:Int)∧(0:Int)≤_;omega
   dep:=Nat.zero_le _
   dn:=Nat.zero_le _
   fn:=Nat.zero_le _}
 refine⟨⟨j,⟨rfl,rfl,rfl,rfl,?_,fun i=>?_,fun i hi=>?_,⟨Int.le_refl _,by show(0:Int)≤4294967295;decide⟩,⟨Int.le_refl _,by show(0:Int)≤4294967295;decide⟩,⟨Int.le_refl _,by show(0:Int)≤18446744073709551615;decide⟩⟩,by omega⟩,h.most⟩
 ·show(if C.keyed then(4:Int)else 0)=0∨(if C.keyed then(4:Int)else 0)=4
  cases C.keyed
  ·exact .inl rfl
  ·exact .inr rfl
 ·show 0≤hdI3 C i∧hdI3 C i<256
  unfold hdI3
  repeat' split
  ·exact h.F _
  ·exact h.M _
  ·decide
  ·exact h.S _
 ·rw[d i]
  repeat' split
  all_goals omega
theorem aEC {E S:TypeId}{size l:Nat}{z:Value}(G:Elt E S size l z)(w:World)(J:TypeId)(base:Nat)(A:Option Addr)(n c:Nat)(xs:List Value)(D:OwnE E size w base A n c xs)(x:Addr)(m I:Nat)(b:List Value)(H:b.length=m*size)
 (d: ∀j u,b[j]? =some u→w.cell? (x.add j)=some u)(Z: ∀u∈b,u.oneCell'=true)(R:n+m≤4611686018427387904)(f:(n+m)*l≤140737488355328)(N:n+m≤maxLen):
 ∃r F w',(Builtin.append_ #[S,S] J #[.slice A n c,.slice (some x) m I]).run Tryz.prog w= .ok (.slice r (n+m) F) w'∧OwnE E size w' base r (n+m) F (xs++b)∧w.grownBy w' (ownB A)∧(ownB r=ownB A∨(ownB r=some w.heap.size∧w.grownBy w' none)):=by
 obtain⟨r,F,w',s,h2,Y,y⟩:=aAA G w J base A n c xs D x m I b H d Z R f N
 refine⟨r,F,w',s,h2,Y,?_⟩
 obtain⟨i,X,B⟩:=Option.map_eq_some_iff.1 G.info
 simp only[Prod.mk.injEq]at B
 obtain⟨hz,hs,V⟩:=B
 rcases D.2.2 with⟨e0,h0⟩|⟨g,ab,C,hv,ae,hg,ac,aa,L,M⟩
 ·injection e0 with e1 e2 e3
  subst e1
  rcases y with y|y
  ·exact .inl y
  ·exact .inr ⟨y,Y⟩
 ·injection hv with e1 e2 e3
  subst e1 e3
  by_cases o:n+m≤c
  ·have t:n*i.size+b.length≤C.size:=by rw[H,L,hs,←Nat.add_mul];exact Nat.mul_le_mul_right _ o
   have q:=run_append_room (P:=Tryz.prog) w S J E i G.under X g n c C hg x m I b (by rw[hs];exact H) d Z o t
   rw[q]at s
   injection s with hr3 _
   injection hr3 with hr4 _ _
   exact .inl (by rw[←hr4])
  ·have p: ∀j u,xs[j]? =some u→w.cell? ((⟨g,0,none⟩:Addr).add j)=some u:=D.2.cells (g:=g) rfl
   have q:=run_append_grow (P:=Tryz.prog) w S J E i z G.under X hz ⟨g,0,none⟩ n c xs (by rw[hs];exact D.2.1) p x m I b (by rw[hs];exact H) d (by omega) (by omega) (growslice_fits (by omega) (by rw[V];exact f))
   rw[q]at s
   injection s with hr3 hr4
   injection hr3 with hr5 _ _
   refine .inr ⟨by rw[←hr5];rfl,?_⟩
   rw[←hr4]
   have k:=World.grownBy_alloc w.drew (.cells (xs.toArray++b.toArray++Builtin.zeroCells z.cells (grownCap w (n+m) c E-(n+m))) E) none
   exact⟨k.os,k.tape,k.output,k.size,k.block⟩
theorem wpList_append_new {E S:TypeId}{size d:Nat}{z:Value}(J:Elt E S size d z){w:World}{k:Array Oper}{rest:List Oper}{o:Oper}{a:Act}{Q:Exit→Act→World→Prop}(p:o.guard=none)(s x:Operand)
 (r:o.op= .call {callee:= .builtin .append,args:= #[s,x],argTypes:= #[S,S]})
 (base:Nat)(A:Option Addr)(n c:Nat)(xs:List Value)(hs:a.eval s= .slice A n c)(M:OwnE E size w base A n c xs)(q:Addr)(m B:Nat)(b:List Value)(G:a.eval x= .slice (some q) m B)(L:b.length=m*size)
 (g: ∀j u,b[j]? =some u→w.cell? (q.add j)=some u)(F: ∀u∈b,u.oneCell'=true)(y:n+m≤4611686018427387904)(f:(n+m)*d≤140737488355328)(t:n+m≤maxLen)
 (h: ∀i l w',OwnE E size w' base i (n+m) l (xs++b)→w.grownBy w' (ownB A)→(ownB i=ownB A∨(ownB i=some w.heap.size∧w.grownBy w' none))→wpList Tryz.prog k Q rest (a.put o.dst (.slice i (n+m) l)) w'):wpList Tryz.prog k Q (o::rest) a w:=
 wpList_plain p fun _ hK=>by
  obtain⟨i,l,w',D,I,C,H⟩:=aEC J w o.type base A n c xs M q m B b L g F y f t
  unfold Oper.wp execOp
  simp only[r,resolve,invoke,builtin,Sem.run_bind,Sem.run_pure,Result.andThen_ok,List.map_toArray,List.map_cons,List.map_nil,hs,G,D]
  exact hK _ _ (h i l w' I C H)
structure Rws (w:World)(B0:Nat)(A:Option Addr)(n c:Nat)(xs:List Value):Prop where
 own:OwnE 70 20 w B0 A n c xs
 nil:n=0→A=none
 u8:0<n→ ∃v,xs[3]? =some (.int .u8 v)
theorem aID {w w':World}{x:Nat}{A:Option Addr}{n c:Nat}{xs:List Value}{Ft:Nat→Prop}{v:Value}{l:List Nat}(X:Arr w Ft v l)(h:Rws w x A n c xs){u:Option Addr}{B I:Nat}{q:List Value}(Y:OwnE 70 20 w' x u B I (xs++q))(y:w.grownBy w' (ownB A))(M:ownB u=ownB A):Arr w' Ft v l:=by
 obtain⟨D,n2,R,rfl,N,t⟩:=X
 refine⟨D,n2,R,rfl,N,fun i hi=>?_⟩
 obtain⟨b,e,z,E,f⟩:=t i hi
 refine⟨b,e,yL z y.size,E,?_⟩
 by_cases d:ownB A=some b
 ·have C:0<n:=by
   rcases Nat.eq_zero_or_pos n with s|s
   ·rw[h.nil s]at d;cases d
   ·exact s
  have hlen:=OwnE.len h.own
  have r:xs.length=n*20:=hlen
  have g: ∀(j:Nat) (hj:j<xs.length),w.cell? ⟨b,j,none⟩=xs[j]? :=fun j hj=>by
   obtain⟨b2,G,_,_,L⟩:=OwnE.cell h.own (i:=j) (by omega)
   rw[G]at d
   have k:b2=b:=by simpa [ownB]using d
   subst k
   exact L
  have p:i<xs.length:=by
   rcases Nat.lt_or_ge i xs.length with p|p
   ·exact p
   ·exfalso
    obtain⟨Z,o,_,_,m⟩:=t 3 (by omega)
    rw[e]at o
    injection o with o
    injection o with o
    subst o
    rw[g 3 (by omega)]at m
    obtain⟨v,F⟩:=h.u8 C
    rw[F]at m
    cases m
  obtain⟨V,H,_,_,J⟩:=OwnE.cell Y (i:=i) (by rw[List.length_append];omega)
  rw[M.symm.trans (by rw[H])]at d
  have k:V=b:=by simpa [ownB]using d
  subst k
  rw[J,List.getElem?_append_left p,←g i p]
  exact f
 ·exact(World.cell?_of_block (a:=⟨b,i,none⟩) (y.block b z (fun e=>d e.symm))).trans f
theorem At.rows {w w':World}{B g:Nat}{p:Pl}{m:Mk}(h:At w B g p m){r:Nat}{A:Option Addr}{n c:Nat}{xs:List Value}(s:Rws w r A n c xs)(j: ∀k,ownB A=some k→ ¬p.foot g k)
 {l:Option Addr}{u x:Nat}{f:List Value}(t:OwnE 70 20 w' r l u x (xs++f))(o:w.grownBy w' (ownB A))(i:ownB l=ownB A∨(ownB l=some w.heap.size∧w.grownBy w' none)):At w' B g p m:=by
 rcases i with i|⟨_,d⟩
 ·have hk:=KeptF.grow _ o
  have b: ∀k,p.foot g k→ ¬(ownB A=some k):=fun k hf e=>j k e hf
  exact
   {st:=⟨Kf.Blk.keptF h.st.st hk (b _ (.inl rfl)),Kf.Own.keptF h.st.own hk (fun k hk'=>b k (.inr (.inl (by injection hk' with e;exact e.symm)))),h.st.ne⟩
    dr:=Mf.OwnE.keptF h.dr hk (fun k e=>b k (.inr (.inr (.inl e))))
    fr:=Mf.OwnE.keptF h.fr hk (fun k e=>b k (.inr (.inr (.inr e))))
    dm:=h.dm,fm:=h.fm
    da:=fun q hq=>aID (h.da q hq) s t o i
    ma:=aID h.ma s t o i
    dg:=h.dg,fg:=h.fg,df:=h.df,gB:=h.gB,fo:=h.fo}
 ·exact h.below ⟨d.os,d.tape,d.output,d.size,fun k hk=>d.block k hk (by simp)⟩
theorem aIE {w w':World}{g:Nat}(h:KeptB w.heap.size g w w'):KeptF (One g) w w':=⟨h.os,h.tape,h.output,h.size,fun k hk hne=>h.block k hk hne⟩
structure RowsR (wr:World)(gq:Nat)(F:Nat→Prop)(A:Option Addr)(xs:List Value)(b0:Int)(rs:List (List PR×Int×Int×(Nat→Int))):Prop where
 len:xs.length=rs.length*20
 at_: ∀i (h:i<rs.length),∃(Ar:Option Addr) (nr cr:Nat),(xs.drop (20*i)).take 20=recL (b0+i+1) rs[i].2.1 rs[i].2.2.1 rs[i].2.2.2 (.slice Ar nr cr)∧rs[i].1.length=nr∧nr≤16∧Prs wr Ar rs[i].1∧ ∀b off,Ar=some ⟨b,off,none⟩→0<nr→b<wr.heap.size∧b≠gq∧ ¬F b∧ownB A≠some b
theorem RowsR.step {wr w':World}{g:Nat}{F m:Nat→Prop}{A n:Option Addr}{xs:List Value}{b0:Int}{rs:List (List PR×Int×Int×(Nat→Int))}(h:RowsR wr g F A xs b0 rs){G:Nat→Prop}(j:KeptF G wr w')(t: ∀b,b<wr.heap.size→G b→b=g∨F b∨ownB A=some b)
 (q: ∀b,b<wr.heap.size→m b→F b)(x: ∀b,b<wr.heap.size→ownB n=some b→ownB A=some b):RowsR w' g m n xs b0 rs:=
 ⟨h.len,fun i hi=>by
   obtain⟨s,p,cr,u,y,r,z,l⟩:=h.at_ i hi
   refine⟨s,p,cr,u,y,r,?_,fun b off e hn=>?_⟩
   ·rcases Nat.eq_zero_or_pos p with o|o
    ·rw[List.eq_nil_of_length_eq_zero (show rs[i].1.length=0 by omega)]
     exact Prs.nil _ _
    ·exact z.keptB j.size fun b off e hb=>j.block b hb fun hg=>by
      obtain⟨c,d,k,f⟩:=l b off e o
      rcases t b hb hg with h|h|h
      ·exact d h
      ·exact k h
      ·exact f h
   ·obtain⟨c,d,k,f⟩:=l b off e hn
    exact⟨yL c j.size,d,fun hf=>k (q b c hf),fun ha=>f (x b c ha)⟩⟩
theorem RowsR.snoc {wr:World}{k:Nat}{F:Nat→Prop}{A:Option Addr}{xs:List Value}{b0:Int}{rs:List (List PR×Int×Int×(Nat→Int))}(h:RowsR wr k F A xs b0 rs)(r:List PR×Int×Int×(Nat→Int)){f:Option Addr}{d cr:Nat}{p:Int}(hs:p=b0+rs.length+1)(s:r.1.length=d)(j:d≤16)(u:Prs wr f r.1)
 (y: ∀b off,f=some ⟨b,off,none⟩→0<d→b<wr.heap.size∧b≠k∧ ¬F b∧ownB A≠some b):RowsR wr k F A (xs++recL p r.2.1 r.2.2.1 r.2.2.2 (.slice f d cr)) b0 (rs++ [r]):=by
 have g:(recL p r.2.1 r.2.2.1 r.2.2.2 (.slice f d cr)).length=20:=rfl
 have t:=h.len
 refine⟨by rw[List.length_append,List.length_append,g,List.length_singleton,h.len];omega,fun i hi=>?_⟩
 by_cases c:i<rs.length
 ·obtain⟨m,n,l,q,x⟩:=h.at_ i c
  rw[List.getElem_append_left c]
  refine⟨m,n,l,?_,x⟩
  rw[List.drop_append_of_le_length (by omega),List.take_append_of_le_length (by rw[List.length_drop];omega)]
  exact q
 ·have o:i=rs.length:=by rw[List.length_append,List.length_singleton]at hi;omega
  subst o
  refine⟨f,d,cr,?_,?_⟩
  ·rw[List.drop_left' (by omega),List.take_of_length_le (by rw[g];exact yR _)]
   simp[hs]
  ·simpa using⟨s,j,u,y⟩
theorem aFB {m:Mk}{L:List PR}{real mono:Int}{K:Nat→Int}(b:Mk.acode m L real mono K=0):(Mk.after m L real mono K).h.N 9=m.h.N 9+1∧m.h.N 9≠18446744073709551615:=by
 refine⟨?_,fun h9=>?_⟩
 ·unfold Mk.after
  rw[if_pos b]
  show(Mk.told _ _ _ _ _ _ _).h.N 9=_
  rw[aEV _ _ _ _ _ _ _ _ (by decide),if_neg (by decide),if_neg (by decide),if_pos rfl]
 ·unfold Mk.acode at b
  by_cases c:listE L=0
  ·rw[if_neg (by simpa using c),if_pos h9]at b
   cases b
  ·rw[if_pos c]at b;exact absurd b c
structure LM (wr:World)(B0 B g gq:Nat)(a:Option Addr)(len cap:Nat)(f:Nat→Int)(A:Option Addr)(n c:Nat)(w:World)(mo:Nat):Prop where
 jr: ∃p m rs xs b0,At wr B g p m∧GoodN m n mo∧(∀k,ownB A=some k→ ¬p.foot g k)∧Rws wr B A n c xs∧Reach m rs∧rs.length=n∧m.h.N 9=b0+(n:Int)∧RowsR wr gq (p.foot g) A xs b0 rs
 sq: ∃k,SeqIn wr gq a len cap f k
 kp:KeptB B0 gq w wr
def MadeJ (gq mo:Nat)(w:World)(e:Ending)(w':World):Prop:= ∃(g:Nat) (A:Option Addr) (n c B:Nat) (p:Pl) (m:Mk),e= .returned (.tuple #[.pointer (some ⟨g,0,none⟩),.slice A n c])∧w.heap.size≤B∧At w' B g p m∧GoodN m n mo∧KeptB w.heap.size gq w w'
def MadeR (gq mo:Nat)(w:World)(e:Ending)(w':World):Prop:= ∃(g:Nat) (A:Option Addr) (n c B:Nat) (p:Pl) (m:Mk) (rs:List (List PR×Int×Int×(Nat→Int))) (xs:List Value) (b0:Int),e= .returned (.tuple #[.pointer (some ⟨g,0,none⟩),.slice A n c])∧w.heap.size≤B∧At w' B g p m∧GoodN m n mo∧KeptB w.heap.size gq w w'∧Rws w' B A n c xs∧Reach m rs∧rs.length=n∧m.h.N 9=b0+(n:Int)∧RowsR w' gq (p.foot g) A xs b0 rs
theorem rec_range {w:World}{g:Nat}{T:TypeId}{s r m:Int}{K:Nat→Int}{F:Value}(h:Blk w g (recL s r m K F) T):w.rangeAt g 3 (idJ K):=fun j v hj=>by
 have b:j<16:=(List.getElem?_eq_some_iff.1 hj).1
 refine h.cell (i:=3+j) ?_
 rw[aC7 K j b]at hj
 rcases j with _|_|_|_|_|_|_|_|_|_|_|_|_|_|_|_|j
 all_goals first|exact hj|omega
theorem aDa {m:Mk}(g:Good m){L:List PR}(x:AllP L)(real mono:Int)(K:Nat→Int)(t:0≤real∧real≤18446744073709551615)(o:0≤mono∧mono≤18446744073709551615)(n:IdOk K):Good (Mk.after m L real mono K):=by
 unfold Mk.after
 by_cases c:Mk.acode m L real mono K=0
 ·rw[if_pos c]
  unfold Mk.acode at c
  by_cases d:listE L=0
  ·rw[if_neg (by simpa using d)]at c
   by_cases f:m.h.N 9=18446744073709551615
   ·rw[if_pos f]at c;cases c
   ·rw[if_neg f]at c
    by_cases s:m.C.most<(Mk.grown m (listL L) real mono K).b.length
    ·rw[if_pos s]at c;cases c
    ·obtain⟨n16,i⟩:=aFA d
     obtain⟨r,u,p,y,A⟩:=aGp g.img.inv g.img.hg (listL L) (fun q hq=>by
      obtain⟨l,z⟩:=i q hq
      have j:=x q l
      have k:=aBi z
      exact⟨j.1,j.2.1,k.1,k.2⟩) n16 g.img.len real mono K t o n f
     exact⟨⟨r,u,by rw[y];have:=g.most;omega⟩,by rw[p];exact g.most⟩
  ·rw[if_pos d]at c;exact absurd c d
 ·rw[if_neg c];exact g
theorem aDb {m:Mk}(h:Inv m)(g:HG m)(L:List PR)(G: ∀q∈L,AllB q.1∧AllB q.2∧q.1.length≤64∧q.2.length≤256)(r:L.length≤16)(hb:m.b.length≤32768)(real mono:Int)(K:Nat→Int)
 (hr:0≤real∧real≤18446744073709551615)(hm:0≤mono∧mono≤18446744073709551615)(hK:IdOk K)(h9:m.h.N 9≠18446744073709551615):
 (Mk.entered m L real mono K).h.N 8=m.h.N 8+1:=by
 have n9:=g.nb 9 (by omega)
 obtain⟨n,i2,A,Z,t⟩:=aAs h L G L.length (yR _)
 have F:=aC4 g h L G r (by omega) L.length (yR _)
 rw[List.take_length]at n i2 A Z t F
 unfold Mk.entered Mk.grown
 dsimp only
 generalize I:Mk.dataAll m L=s at*
 obtain⟨c,who⟩:=s
 dsimp only at*
 obtain⟨f,l,j,z⟩:=n.mn
 have u:(Mk.eobj c who (L.map fun q=>pay q.1 q.2) (m.h.N 9+1) real mono K).length%8=0∧0<(Mk.eobj c who (L.map fun q=>pay q.1 q.2) (m.h.N 9+1) real mono K).length∧(Mk.eobj c who (L.map fun q=>pay q.1 q.2) (m.h.N 9+1) real mono K).length≤400∧64≤(Mk.eobj c who (L.map fun q=>pay q.1 q.2) (m.h.N 9+1) real mono K).length:=by
  have e:=aDG c who (L.map fun q=>pay q.1 q.2) (m.h.N 9+1) real mono K
  omega
 generalize Mk.eobj c who (L.map fun q=>pay q.1 q.2) (m.h.N 9+1) real mono K=d at*
 obtain⟨e1,X,e3,e4⟩:=u
 have E:=aA7 n d e1 X
 have G2:=aBR F d (by omega)
 have M:=aAM c d
 have k:Chain (c.object d).b.length (c.object d).main f:=j.mono (by omega)
 have p:(c.object d).h.N 8=(f:Int):=l
 have B:=n.len
 have e8:(m.h.N 8).toNat=f:=by rw[←t.n8,l];rfl
 rw[e8]
 obtain⟨g1,g2,g3,D,g5,g6,g7⟩:=aBx E c.b.length f p k (by omega) (by omega)
 have H:=aGo G2 E c.b.length f k (by omega) (by omega)
 generalize Mk.linked (c.object d) c.b.length f=o at*
 have i:InvM c.b.length 0 o:=⟨g1,fun k' hk'=>by rw[D]at hk';exact(n.dat k' hk').2.2.2.2,by omega⟩
 have x: ∀y∈who,y<o.datas.length:=fun y hy=>by rw[D];exact A y hy
 obtain⟨J,k2,k3,Y,R,k6,C⟩:=aAL i c.b.length who x (by omega) who.length (yR _)
 have V:=aC5 H i c.b.length who x (by omega) (by omega) who.length (yR _)
 rw[List.take_length]at J k2 k3 Y R k6 C V
 show(Mk.told (Mk.markAll c.b.length o who) _ _ _ _ _ _).h.N 8=_
 have hk:(Mk.markAll c.b.length o who).h.N 8=m.h.N 8:=by rw[C,g7];exact t.n8
 rw[←hk]
 unfold Mk.told setN
 dsimp only
 repeat' split
 all_goals (simp_all (config:={decide:=true}))
theorem aHD {m:Mk}{n b:Nat}(g:GoodN m n b)(k:n<b){L:List PR}(o:AllP L)(real mono:Int)(K:Nat→Int)(l:0≤real∧real≤18446744073709551615)(j:0≤mono∧mono≤18446744073709551615)(f:IdOk K):(Mk.acode m L real mono K=0→GoodN (Mk.after m L real mono K) (n+1) b)∧(Mk.acode m L real mono K≠0→GoodN (Mk.after m L real mono K) n b):=by
 refine⟨fun h0=>?_,fun h0=>?_⟩
 ·have s:=aDa g.good o real mono K l j f
  obtain⟨rs,d,p⟩:=g.rch
  refine⟨s.img,s.most,?_,k,_,Reach.step d L o real mono K l j f h0,by rw[List.length_append,p];rfl⟩
  unfold Mk.after
  rw[if_pos h0]
  unfold Mk.acode at h0
  by_cases c:listE L=0
  ·rw[if_neg (by simpa using c)]at h0
   by_cases r:m.h.N 9=18446744073709551615
   ·rw[if_pos r]at h0;cases h0
   ·obtain⟨n16,i⟩:=aFA c
    rw[aDb g.img.inv g.img.hg (listL L) (fun q hq=>by
       obtain⟨x,y⟩:=i q hq
       have t:=o q x
       have u:=aBi y
       exact⟨t.1,t.2.1,u.1,u.2⟩) n16 g.img.len real mono K l j f r,g.cnt]
    rfl
  ·rw[if_pos c]at h0;exact absurd h0 c
 ·unfold Mk.after
  rw[if_neg h0]
  exact g
def slen:Value→Nat
 | .slice _ n _=>n
 |_=>0
theorem aIF (s r m:Int)(K:Nat→Int)(A:Option Addr)(n c:Nat): ∀u∈recL s r m K (.slice A n c),u.oneCell'=true:=fun u hu=>by
 simp only[recL,List.mem_cons,List.not_mem_nil,or_false]at hu
 rcases hu with h|h|h|h|h|h|h|h|h|h|h|h|h|h|h|h|h|h|h|h<;>(rw[h];rfl)
attribute [local irreducible] Mk.cells HD.cells Cf.cells wpList Code.wp
theorem aEX (o:Nat)(a:Option Addr)(len J:Nat)(f:Nat→Int)(k:Nat)(mo:Nat)(w:World)(h:SeqIn w o a len J f k)(bY:mo≤1000):
 Calls Tryz.prog 25 #[.pointer (some ⟨o,0,none⟩),.int .i64 (mo:Int)] w (MadeR o mo w):=by
 have bS:=h.1.lt
 have Q0:=yH h
 have bD:=yH (show 0<len→ ∀b off,a=some ⟨b,off,none⟩→b<w.heap.size from fun R b off e=>by obtain⟨b',bQ,e',H,_⟩:=h.2.1 0 R;rw[e]at e';injection e' with e';injection e' with e';omega)
 have HC:=yH (aJy o a len J f k w h)
 have HS:=yH fun(b:Int) (H:1≤b) (h2:b≤1000000) (j:Nat) (W:World) (hW:SeqIn W o a len J f j)=>aHA o a len J f j b W H h2 hW
 have bs:=yH fun(C:Cf) (x:Int) (W:World) (hds:0<C.ds∧C.ds≤64) (hfs:0<C.fs∧C.fs≤64)=>aDr C x W hds hfs
 clear h
 go_enter Tryz.func25,Tryz.ntmps25
 go_upto_region 2 with(first
  |(go_at_call 62;(with_reducible refine HC.out.mono ?_);rintro e w1 ⟨C,rfl,aD,bx,ba⟩;have Y:=yH aD;have Q1:=yH bx;have K1:=yH ba;clear aD bx ba)
  |((with_reducible apply aAa (.tmp 6) (.tmp 13));refine wpList_store_row rfl 79 (.tmp 6) (.tmp 13) rfl w1.heap.size (Cf.cells C).toArray rfl rfl 79 zC (heap_alloc_new w1 _) (aHB _) (aIB _) (Cf.one _) ?_)
  |fail)
 have R2:=yH (show Blk ((w1.alloc (.cells zC 79)).setRow w1.heap.size (Cf.cells C).toArray) w1.heap.size (Cf.cells C) 79 from setRow_heap _ _ _ _ _ (0,0) (heap_alloc_new w1 _))
 have B2:=yH (show Below w1.heap.size w1 ((w1.alloc (.cells zC 79)).setRow w1.heap.size (Cf.cells C).toArray)from below_setRow ((Below.refl _ _).alloc (yR _) _) (yR _) _)
 generalize (w1.alloc (.cells zC 79)).setRow w1.heap.size (Cf.cells C).toArray=w2 at*
 have Q2:=yH (Q1.out.below B2.out)
 have K2:=yH (K1.out.trans (KeptB.of_below (B2.out.mono K1.out.size)))
 have bl:=R2.out.lt
 have bk:o<w1.heap.size:=Q1.out.1.lt
 generalize w1.heap.size=s at*
 clear Q0 HC Q1 K1 B2
 have bz:=yH (Q2.out.below (Below.refl _ _).drew)
 have aN:=yH (K2.out.drew)
 have bg:=yH (R2.out.drew)
 have aC:s<w2.drew.heap.size:=bl
 have S2:=yH (show w2.drew.rangeAt s 0 (Cf.cells C)from fun j v hj=>by rw[Nat.zero_add];exact R2.out.cell hj)
 refine wp_region_noPanic ?_
 refine wp_region_held_drew (S:=fun W:World=>W.rangeAt s 0 (Cf.cells C)) (by kernel_rfl) (by exact S2.out) (fun hHeld=>?_)
 refine tk (i:=0) (oi:=⟨some 14,_,_,_,_,_⟩) rfl (yieldsIf_load_mid (by rfl) _ _ rfl _ _ rfl _ _ (fun _ h=>h) Tryz.underlying79 rfl (Cf.info C)) ?_
 try simp only[Act.put,sA,sZ,sS]
 refine tq 1 15 rfl (fun W hSw=>by go_simp;try (with_reducible rfl)) ?_
 try simp only[Act.put,sA,sZ,sS]
 refine rd 2 rfl (fun K hK=>?_)
 go_simp
 (refine(HS.out 6 (by decide) (by decide) _ _ bz.out).mono ?_);rintro e w3 ⟨r6,rfl,bO,bq,aR⟩;have aY:IntKind.u64.wrap (r6:Int)=(r6:Int):=by {rw[IntKind.wrap_u64];omega};have Q3:=yH bq;have K3:=yH (aN.out.trans (aR.mono aN.out.size));have R3:=yH (Seq8.Blk.keptB bg.out aR aC (Nat.ne_of_gt bk));have S3:=yH (show w3.rangeAt s 0 (Cf.cells C)from fun j v hj=>by {rw[Nat.zero_add];exact R3.out.cell hj});clear bq aR
 try go_wp2_with fail
 refine hK.out _ _ (by exact S3.out) (fun hHeld=>?_)
 clear hK K
 try simp only[Act.put,sA,sZ,sS]
 refine tq 3 17 rfl (fun W hSw=>by go_simp;try (with_reducible rfl)) ?_
 try simp only[Act.put,sA,sZ,sS]
 refine rd 4 rfl (fun K hK=>?_)
 go_simp
 (refine(bs.out C _ _ Y.out.ds Y.out.fs).mono ?_);rintro e w4 ⟨g,rfl,⟨p4,aF⟩,aQ⟩;have B4:=yH aQ;have S4:=yH (show w4.rangeAt s 0 (Cf.cells C)from fun j v hj=>by {rw[Nat.zero_add];exact(R3.out.below aQ R3.out.lt).cell hj});clear aQ
 try go_wp2_with fail
 refine hK.out _ _ (by exact S4.out) (fun hHeld=>?_)
 clear hK K
 try simp only[Act.put,sA,sZ,sS]
 refine tq 5 7 rfl (fun W hSw=>by go_simp;try (with_reducible rfl)) ?_
 try simp only[Act.put,sA,sZ,sS]
 refine wpAnyH_done (by kernel_rfl) ?_ _
 refine NoPanic.normal ?_
 have I:=yH aF
 have Q4:=yH (Q3.out.below B4.out)
 have K4:=yH (K3.out.trans (KeptB.of_below (B4.out.mono K3.out.size)))
 have ab:w.heap.size≤w3.heap.size:=K3.out.size
 have HG:=yH (show GoodN (Mk.new C (r6:Int)) 0 mo from⟨(aDI Y.out _ (by omega)).img,(aDI Y.out _ (by omega)).most,rfl,Nat.zero_le _,[],Reach.mk Y.out _ (by omega),rfl⟩)
 generalize Mk.new C (r6:Int)=m0 at*
 generalize w3.heap.size=B at*
 clear aF Q2 K2 R2 bl bz S2 aN bg aC bs HS Y aY bO bk
 go_upto_region 4 with fail
 have bm:=yH (show LM w4 w.heap.size B g o a len J f none 0 0 w mo from by
  obtain⟨bH,bG,a7⟩:=HG.out.rch
  exact⟨⟨p4,m0,bH,[],m0.h.N 9,I.out,HG.out,(fun k h=>by cases h),⟨OwnE.nil _ _ (by have:=(I.out.lt g (.inl rfl));omega),fun _=>rfl,fun h=>absurd h (by decide)⟩,bG,a7,(Int.add_zero _).symm,⟨by rw[a7];rfl,fun i hi=>absurd hi (by omega)⟩⟩,⟨_,Q4.out⟩,K4.out⟩)
 clear I HG Q4 K4
 go_loopw [8] (fun a8 wr=> ∃(A:Option Addr) (n c:Nat),a8= .slice A n c∧n≤mo∧Hid (LM wr w.heap.size B g o a len J f A n c w mo)) (fun a8 _=>mo-slen a8)
 case atStart=>exact⟨none,0,0,rfl,Nat.zero_le _,bm⟩
 case round=>
  obtain⟨A,n,c,rfl,hn,hL⟩:=hrel
  obtain⟨⟨p,m,rs,xs,b0,aX,a6,ay,aL,aA,bt,aV,aw⟩,⟨k,a4⟩,aU⟩:=hL.out
  have X:=yH aA
  have ad:=yH bt
  have ae:=yH aV
  have ai:=yH aw
  have I:=yH aX
  have E:=yH a6
  have aG:=yH ay
  have aT:=yH a4
  have aa:=yH aU
  have l:=yH aL
  clear hL bm aX a6 ay a4 aU aL aA bt aV aw
  have ao:=yH (aMM o a len J f k wr aT.out)
  by_cases bC:n<mo
  ·have d1:decide ((n:Int)<(mo:Int))=true:=by simp;omega
   by_cases hk:k<len
   ·have d2:decide (k<len)=true:=by simpa using hk
    rw[d2]at ao
    go_upto_region 5 with(first
     |(go_at_call 64;(refine ao.out.mono ?_);rintro e w5 ⟨rfl,ak⟩;have Z:=yH ak;clear ak)
     |fail)
    have aP:=yH (At.below I.out Z.out)
    have Q5:=yH (aT.out.below Z.out)
    have bw:=yH (aDE B g p.bb p.cb p.S m w5 aP.out.st)
    have aO:=yH fun(x:Int)=>aJA o a len J f k x w5 Q5.out
    unfold Recorded at aO
    obtain⟨V,br⟩: ∃y,IntKind.u64.wrap (m.h.N 9+1)=y:=⟨_,rfl⟩
    clear d1 d2 ao
    go_upto_region 6 with(first
     |(go_at_call 66;(refine bw.out.mono ?_);rintro e w6 ⟨rfl,rfl⟩)
     |(go_at_call 65;(refine(aO.out _).mono ?_);rintro e w7 ⟨L,z,u,cr,k7,r,d,x,rfl,a1,bE,a5,bW,bV,bB,bi,bv,aJ⟩;have ar:=yH a1;have aE:=yH a5;have a3:=yH bi;have ac:=yH bv;have bf:=yH aJ;clear a1 a5 bi bv aJ)
     |((with_reducible apply aAa (.tmp 9) (.tmp 31));refine wpList_store_row rfl 70 (.tmp 9) (.tmp 31) rfl w7.heap.size (recL V (r:Int) (d:Int) (mkId x) (.slice z u cr)).toArray rfl rfl 70 zR (heap_alloc_new w7 _) (aAm _ _ _ _ _) rfl (by simp[Value.oneCell']) ?_)
     |fail)
    have R8:=yH (show Blk ((w7.alloc (.cells zR 70)).setRow w7.heap.size (recL V (r:Int) (d:Int) (mkId x) (.slice z u cr)).toArray) w7.heap.size (recL V (r:Int) (d:Int) (mkId x) (.slice z u cr)) 70 from setRow_heap _ _ _ _ _ (0,0) (heap_alloc_new w7 _))
    have B8:=yH (show Below w7.heap.size w7 ((w7.alloc (.cells zR 70)).setRow w7.heap.size (recL V (r:Int) (d:Int) (mkId x) (.slice z u cr)).toArray)from below_setRow ((Below.refl _ _).alloc (yR _) _) (yR _) _)
    generalize (w7.alloc (.cells zR 70)).setRow w7.heap.size (recL V (r:Int) (d:Int) (mkId x) (.slice z u cr)).toArray=w8 at*
    have bL:=yH br
    clear bw aO br
    have a0:wr.heap.size≤w7.heap.size:=Nat.le_trans Z.out.size ac.out.size
    have ah:w.heap.size≤wr.heap.size:=aa.out.size
    have bj:=yH (At.offB aP.out (aIE ac.out) (fun k' h'=>by have h':k'=o:=h';omega))
    have bI:=yH (At.below bj.out B8.out)
    have t:=yH (aE.out.below B8.out)
    have bK:=yH (a3.out.below B8.out)
    have bF:=yH (show KeptB w.heap.size o w w8 from((aa.out.trans (KeptB.of_below (Z.out.mono ah))).trans (ac.out.mono (Nat.le_trans ah Z.out.size))).trans (KeptB.of_below (B8.out.mono (Nat.le_trans ah a0))))
    have am:=yH (show KeptF (One o) wr w8 from((KeptF.of_below (F:=One o) Z.out).trans (aIE ac.out) (fun _ _ h=>h)).trans (KeptF.of_below (F:=One o) B8.out) (fun _ _ h=>h))
    have bM:w7.heap.size<w8.heap.size:=R8.out.lt
    have bp:=yH (rec_range R8.out)
    have bJ:w8.cell? ⟨w7.heap.size,19,none⟩=some (.slice z u cr):=R8.out.cell rfl
    have c1:w8.cell? ⟨w7.heap.size,1,none⟩=some (.int .u64 (r:Int)):=R8.out.cell rfl
    have c2:w8.cell? ⟨w7.heap.size,2,none⟩=some (.int .u64 (d:Int)):=R8.out.cell rfl
    have ag:=yH (aEW (p:=p) (m:=m) z L u cr (r:Int) (d:Int) (mkId x) w8 bI.out E.out.img.inv t.out ar.out (by omega) E.out.img.len (by rw[E.out.most];decide) (aCX (by omega)) (by omega) (by omega) (E.out.img.hg.nb 9 (by omega)))
    unfold Appended at ag
    have aB:=yH (aHD E.out bC t.out.1 (r:Int) (d:Int) (mkId x) (by omega) (by omega) (aCX (by omega)))
    have D:=yH (show(Mk.acode m L (r:Int) (d:Int) (mkId x)=0→Reach (Mk.after m L (r:Int) (d:Int) (mkId x)) (rs++ [(L,(r:Int),(d:Int),mkId x)])∧(Mk.after m L (r:Int) (d:Int) (mkId x)).h.N 9=m.h.N 9+1∧V=m.h.N 9+1)∧(Mk.acode m L (r:Int) (d:Int) (mkId x)≠0→Mk.after m L (r:Int) (d:Int) (mkId x)=m)from
     ⟨fun R=>⟨Reach.step X.out L t.out.1 (r:Int) (d:Int) (mkId x) (by omega) (by omega) (aCX (by omega)) R,(aFB R).1,by
       have h9:=(aFB R).2
       have bU:=E.out.img.hg.nb 9 (by omega)
       have hw:=bL.out
       rw[IntKind.wrap_u64]at hw
       omega⟩,fun R=>if_neg R⟩)
    have bu:=yH ar.out
    have ax:=yH (show ∀b off,z=some ⟨b,off,none⟩→0<u→wr.heap.size≤b∧b<w8.heap.size from fun b off e hn=>by
     have h5:=bf.out b off e hn
     have h6:=Z.out.size
     obtain⟨b2,bR,e2,h7,_⟩:=t.out.2 0 (by rw[ar.out];exact hn)
     rw[e]at e2
     injection e2 with e2
     injection e2 with e2
     subst e2
     exact⟨by omega,h7⟩)
    have aS:=yH t.out
    generalize Mk.after m L (r:Int) (d:Int) (mkId x)=m9 at*
    generalize Mk.acode m L (r:Int) (d:Int) (mkId x)=cd at*
    clear aP Q5 a3 ac bj aE ar t aa bB Z
    generalize bo:w7.heap.size=s7 at*
    clear bo B8
    go_upto_region 7 with(first
     |((with_reducible apply aAb 41);refine wpList_load_mid rfl 37 (.tmp 40) rfl s7 3 rfl (idJ (mkId x)) _ bp.out Tryz.underlying37 rfl (aBl _) ?_)
     |(go_at_call 33;(refine ag.out.mono ?_);rintro e w9 ⟨rfl,p9,aW,a2⟩;have aM:=yH aW;have q:=yH a2;clear aW a2)
     |fail)
    clear bJ c1 c2 bp ag
    have M:=At.lt I.out
    have aZ:=yH (show Below B w8 w9 from q.out.base (by have:=(M g (.inl rfl));omega) (fun k' h'=>(M k' h').1))
    have bd:=yH (show KeptB w.heap.size o w w9 from bF.out.trans (KeptB.of_below (aZ.out.mono ab)))
    have bc:=yH (show OwnE 70 20 w9 B A n c xs from Mf.OwnE.keptF l.out.own (((am.out.mono (G:=fun k'=>k'=o∨p.foot g k') (fun i h=> .inl h)).trans q.out.kept (fun _ _ h=> .inr h))) (fun k' hk' h=>by
     rcases h with h|h
     ·have:=(OwnE.ltB l.out.own k' hk').1;omega
     ·exact aG.out k' hk' h))
    have aq:=yH (show ∀k',ownB A=some k'→ ¬p9.foot g k' from fun k' hk' h=>by
     rcases q.out.foot k' h with H|H
     ·exact aG.out k' hk' H
     ·have:=(OwnE.ltB l.out.own k' hk').2;omega)
    have bP:wr.heap.size≤w8.heap.size:=am.out.size
    have af:=yH (show RowsR w9 o (p9.foot g) A xs b0 rs from ai.out.step ((am.out.mono (G:=fun k'=>k'=o∨p.foot g k') (fun i h=> .inl h)).trans q.out.kept (fun _ _ h=> .inr h)) (fun b _ h=>h.elim .inl (fun h=> .inr (.inl h))) (fun b hb hf=>(q.out.foot b hf).elim id (fun h=>by omega)) (fun b _ h=>h))
    have bh:=yH (show Prs w9 z L from by
     rcases Nat.eq_zero_or_pos u with R|R
     ·rw[List.eq_nil_of_length_eq_zero (show L.length=0 by have:=bu.out;omega)]
      exact Prs.nil _ _
     ·exact aS.out.keptB q.out.kept.size fun b off e hb=>q.out.kept.block b hb fun hf=>by
       have H:=(M b hf).2
       have h2:=(ax.out b off e R).1
       omega)
    have bn:=yH (show ∀b off,z=some ⟨b,off,none⟩→0<u→b<w9.heap.size∧b≠o∧ ¬p9.foot g b∧ownB A≠some b from fun b off e hn=>by
     obtain⟨H,h2⟩:=ax.out b off e hn
     have h3:=q.out.kept.size
     refine⟨by omega,by omega,fun hf=>?_,fun ha=>?_⟩
     ·rcases q.out.foot b hf with h4|h4
      ·have:=(M b h4).2;omega
      ·omega
     ·have:=(OwnE.ltB l.out.own b ha).2;omega)
    by_cases hz:cd=0
    ·have d3:(cd !=0)=false:=by simp[hz]
     have bX:(cd==0)=true:=by simp[hz]
     have bN:=yH (show Blk w9 s7 (recL V (r:Int) (d:Int) (mkId x) (.slice z u cr)) 70 from(q.out.kept.block s7 bM (fun hf=>by have:=(M s7 hf).2;omega)).trans R8.out)
     have aH:=yH (show Rws (w9.alloc (.cells (recL V (r:Int) (d:Int) (mkId x) (.slice z u cr)).toArray 70)) B A n c xs from⟨OwnE.alloc bc.out _,l.out.nil,l.out.u8⟩)
     have an:=yH (At.below aM.out ((Below.refl w9.heap.size w9).alloc (yR _) (.cells (recL V (r:Int) (d:Int) (mkId x) (.slice z u cr)).toArray 70)))
     have bT:xs.length=n*20:=OwnE.len l.out.own
     have bA:=yH (aIF V (r:Int) (d:Int) (mkId x) z u cr)
     go_wp2_with(first
      |((with_reducible apply aAb 48);refine wpList_load_row rfl 70 (.tmp 9) rfl s7 rfl 70 (recL V (r:Int) (d:Int) (mkId x) (.slice z u cr)).toArray (0,0) _ bN.out Tryz.underlying70 rfl (aAm _ _ _ _ _) ?_)
      |(at_builtin;refine wpList_append_new aOf rfl (.tmp 47) (.tmp 49) rfl B A n c xs rfl aH.out.own ⟨w9.heap.size,0,none⟩ 1 1 (recL V (r:Int) (d:Int) (mkId x) (.slice z u cr)) rfl rfl (Blk.news (Blk.new w9 _ _)) bA.out (by omega) (by omega) (by unfold maxLen;omega) ?_;intro A' c' w10 az aI al;have av:=yH az;have aj:=yH aI;have ap:=yH al;clear az aI al)
      |fail)
     have a9:=yH (At.rows an.out aH.out aq.out av.out aj.out ap.out)
     have aK:=yH (show Below B w9 w10 from((Below.refl B w9).alloc (by have:=(At.lt aM.out g (.inl rfl));omega) (.cells (recL V (r:Int) (d:Int) (mkId x) (.slice z u cr)).toArray 70)).trans (below_grown aj.out (by have:=(At.lt an.out g (.inl rfl));omega) (fun k' hk'=>(OwnE.ltB l.out.own k' hk').1)))
     have au:=yH (show RowsR w10 o (p9.foot g) A' (xs++recL V (r:Int) (d:Int) (mkId x) (.slice z u cr)) b0 (rs++ [(L,(r:Int),(d:Int),mkId x)])from
      (af.out.snoc (L,(r:Int),(d:Int),mkId x) (cr:=cr) (by have H:=(D.out.1 hz).2.2;have h2:=ae.out;have h3:=ad.out;omega) bu.out bE bh.out bn.out).step (((KeptF.refl (fun k=>ownB A=some k) w9).alloc _).grown aj.out (fun k h _=>h.symm▸rfl)) (fun b _ h=> .inr (.inr h)) (fun b _ h=>h) (fun b hb h=>by
        rcases ap.out with H|⟨H,_⟩
        ·rw[←H];exact h
        ·rw[H]at h
         injection h with h
         simp only[World.alloc,Array.size_push]at h
         omega))
     go_roundw
     case rel=>
      refine⟨A',n+1,c',rfl,by omega,yH ⟨⟨p9,m9,rs++ [(L,(r:Int),(d:Int),mkId x)],_,b0,a9.out,aB.out.1 hz,fun k' hk' hf=>?_,⟨av.out,fun h=>by omega,fun _=>?_⟩,(D.out.1 hz).1,by rw[List.length_append,ad.out];rfl,by have H:=(D.out.1 hz).2.1;have h2:=ae.out;omega,au.out⟩,⟨k7,aHC bK.out (aZ.out.trans aK.out) (by omega) (fun R b off e=>yL (bD.out R b off e) ab)⟩,bd.out.trans (KeptB.of_below (aK.out.mono ab))⟩⟩
      ·rcases ap.out with H|⟨H,_⟩
       ·exact aq.out k' (H▸hk') hf
       ·rw[H]at hk'
        have h3:=(At.lt an.out k' hf).2
        rw[←Option.some.inj hk']at h3
        exact Nat.lt_irrefl _ h3
      ·rcases Nat.eq_zero_or_pos n with R|R
       ·rw[List.eq_nil_of_length_eq_zero (show xs.length=0 by omega)]
        exact⟨_,rfl⟩
       ·obtain⟨v,hv⟩:=l.out.u8 R
        refine⟨v,?_⟩
        rw[List.getElem?_append_left (by omega)]
        exact hv
     case measure=>simp[slen];omega
    ·have d3:(cd !=0)=true:=by simpa using hz
     go_wp2
     go_ret2
     exact⟨g,A,n,c,B,p9,m9,rs,xs,b0,rfl,ab,aM.out,aB.out.2 hz,bd.out,⟨bc.out,l.out.nil,l.out.u8⟩,by rw[D.out.2 hz];exact X.out,ad.out,by rw[D.out.2 hz];exact ae.out,af.out⟩
   ·have d2:decide (k<len)=false:=by simpa using hk
    rw[d2]at ao
    go_wp2_with(first
     |(go_at_call 64;(refine ao.out.mono ?_);rintro e w5 ⟨rfl,ak⟩;have Z:=yH ak;clear ak)
     |fail)
    go_ret2
    exact⟨g,A,n,c,B,p,m,rs,xs,b0,rfl,ab,At.below I.out Z.out,E.out,aa.out.trans (KeptB.of_below (Z.out.mono aa.out.size)),⟨l.out.own.kept Z.out (yR _),l.out.nil,l.out.u8⟩,X.out,ad.out,ae.out,ai.out.step (KeptF.of_below (F:=fun _=>False) Z.out) (fun _ _ h=>h.elim) (fun _ _ h=>h) (fun _ _ h=>h)⟩
  ·have d1:decide ((n:Int)<(mo:Int))=false:=by simp;omega
   go_wp2_with fail
   go_ret2
   exact⟨g,A,n,c,B,p,m,rs,xs,b0,rfl,ab,I.out,E.out,aa.out,l.out,X.out,ad.out,ae.out,ai.out⟩
theorem aKX (d:Nat)(a:Option Addr)(len b:Nat)(f:Nat→Int)(k:Nat)(i:Nat)(w:World)(h:SeqIn w d a len b f k)(j:i≤1000):
 Calls Tryz.prog 25 #[.pointer (some ⟨d,0,none⟩),.int .i64 (i:Int)] w (MadeJ d i w):=by
 refine(aEX d a len b f k i w h j).mono ?_
 rintro e w' ⟨g,A,n,c,B,p,m,rs,xs,b0,r,o,q,l,s,_⟩
 exact⟨g,A,n,c,B,p,m,r,o,q,l,s⟩
def ImagedN (mo:Nat)(w:World)(e:Ending)(w':World):Prop:= ∃(A:Option Addr) (c:Nat) (m:Mk) (n:Nat),e= .returned (.slice A m.b.length c)∧GoodN m n mo∧Own8.Own w' w.heap.size A m.b.length c (imgB m)∧Below w.heap.size w w'
theorem aOY (a:Option Addr)(len d:Nat)(f:Nat→Int)(s:Nat)(w:World)(x:InInts .i64 w a len f)(J:len≤9223372036854775807)(C:s≤1000):
 Calls Tryz.prog 11 #[.slice a len d,.int .i64 (s:Int)] w (ImagedN s w):=by
 have D:=yH (show SeqIn (w.alloc (.cells #[.slice a len d,.int .i64 0] 62)) w.heap.size a len d f 0 from⟨Blk.new w [.slice a len d,.int .i64 0] _,x.below ((Below.refl _ _).alloc (yR _) _),fun h0 b off e=>by obtain⟨R,F,l,V,_⟩:=x 0 h0;rw[e]at l;injection l with l;injection l with l;omega,Nat.zero_le _,J⟩)
 have E:=yH ((Below.refl w.heap.size w).alloc (yR _) (.cells #[.slice a len d,.int .i64 0] 62))
 have u:=yH (aKX w.heap.size a len d f 0 s _ D.out C)
 unfold MadeJ at u
 clear x
 go_enter Tryz.func11,Tryz.ntmps11
 go_upto_region 2 with(first
  |(go_at_call 25;(refine u.out.mono ?_);rintro e w2 ⟨g,A,n,c,B,p,m,rfl,Z,k,j,G⟩;have I:=yH k;have r:=yH j;have L:=yH G;clear k j G)
  |fail)
 obtain⟨N,X,Y⟩:=r.out.img.lens
 have o:=yH (aD5 B g p.bb p.cb p.S m 1 w2 I.out.st (by omega) (aHz r.out.img) (by have:=r.out.img.inv.dep;omega))
 unfold Owned at o
 have t:=yH (E.out.trans (KeptB.below (L.out.mono E.out.size) (yR _)))
 clear D u
 go_wp2_with(first
  |(go_at_call 27;(refine o.out.mono ?_);rintro e w3 ⟨M,H,rfl,i,q⟩;have y:=yH i;have z:=yH q;clear i q)
  |fail)
 go_ret
 exact⟨M,H,m,n,rfl,r.out,Own.base y.out t.out.size,t.out.trans (z.out.mono t.out.size)⟩
end Nu
namespace Nv
open Go1 (hcode rhd aBK HTold aA5 magicB)
end Nv
end Go.Proofs.YtlelnfokffflnaaGreat
